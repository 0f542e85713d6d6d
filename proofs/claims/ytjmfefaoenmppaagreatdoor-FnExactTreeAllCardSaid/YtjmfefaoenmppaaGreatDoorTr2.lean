/-
  All pointers of a tree, as the specification tells them.
-/
import Derived.Test.YtjmfefaoenmppaaGreatDoorTr1
namespace Go.Proofs.YtjmfefaoenmppaaGreatDoor
open Go.RowKit

theorem QQ.lt {W : World} {g : Nat} {a b c d e : Int} (h : QQ W g a b c d e) : g < W.heap.size := (Array.getElem?_eq_some_iff.1 h).1
theorem QQ.below {W W' : World} {g : Nat} {a b c d e : Int} (h : QQ W g a b c d e) (hb : Below W.heap.size W W') : QQ W' g a b c d e := (hb.block g h.lt).trans h
theorem QQ.grown {W W' : World} {g : Nat} {a b c d e : Int} {r : Option Nat} (h : QQ W g a b c d e) (hg : W.grownBy W' r) (hr : some g ≠ r) : QQ W' g a b c d e := (hg.block g h.lt hr).trans h
theorem QQ.cells {W : World} {g : Nat} {a b c d e : Int} (h : QQ W g a b c d e) : W.cell? ⟨g, 0, none⟩ = some (.int .i64 a) ∧ W.cell? ⟨g, 1, none⟩ = some (.int .i64 b) ∧ W.cell? ⟨g, 2, none⟩ = some (.int .i64 c) ∧ W.cell? ⟨g, 3, none⟩ = some (.int .i64 d) ∧ W.cell? ⟨g, 4, none⟩ = some (.int .i64 e) := by
  unfold QQ at h
  simp [World.cell?, h]
theorem own_tail {W : World} {base g n c : Nat} {p : P5} {ps : List P5} (h : W.ownsRow base 40 5 (.slice (some ⟨g, 0, none⟩) n c) n (flat (p :: ps))) : Lies W (some ⟨g, 5, none⟩) (flat ps) := fun h0 => by
  have hl := h.lt g rfl
  refine ⟨g, 5, rfl, hl.2, fun j v hv => ?_⟩
  have hn := h.1
  have hj := (List.getElem?_eq_some_iff.1 hv).1
  have e : flat (p :: ps) = P5.cells p ++ flat ps := by unfold flat; rw [List.flatMap_cons]
  rw [e, List.length_append] at hn
  have h5 : (P5.cells p).length = 5 := rfl
  rw [h.cellAt (5 + j) (by omega), e, List.getElem?_append_right (by omega), ← hv]
  congr 1
  omega
theorem items_len {s : St} : ∀ {X : List (P5 × Br)}, (∀ x ∈ X, Item s x) → X.length ≤ left X
  | [], _ => Nat.zero_le _
  | x :: X, h => by
    have h1 := items_len (X := X) fun y hy => h y (by simp [hy])
    obtain ⟨l, _, hb⟩ := (h x (by simp)).br
    have h2 := br_pos hb
    rw [left_cons, List.length_cons]
    omega
def AlPost (L : Br) (w : World) (e : Ending) (w' : World) : Prop := Below w.heap.size w w' ∧
  ∃ (A : Option Addr) (c : Nat), e = .returned (.slice A (nh L).length c) ∧ w'.ownsRow w.heap.size 40 5 (.slice A (nh L).length c) (nh L).length (flat (nh L))

set_option maxRecDepth 100000 in
set_option maxHeartbeats 8000000 in
theorem spec_l8all (x : SA) (s : St) (a b c d e dep many : Int) (L : Br) (w : World) (hok : StOk s) (ht : ∀ t ∈ s.rows, t.size ≤ maxLen) (hA : StAt w x s) (hI : Item s (⟨a, b, c, d, e⟩, L)) (hL : L.length ≤ 25) :
    Calls Tryz.prog 66 #[.agg #[.slice x.A s.rows.length x.a, .slice x.R s.sp.refs.length x.r, .slice x.L s.sp.last.length x.l, .int .i64 s.txg, .slice x.G s.gone.length x.g, .int .i64 s.keep, .slice x.D s.dead.length x.d, .bool s.same], .agg #[.int .i64 a, .int .i64 b, .int .i64 c, .int .i64 d, .int .i64 e, .int .i64 dep, .int .i64 many]] w (AlPost L w) := by
  obtain ⟨i0, hi, hz0, hz1, hz2⟩ := info_parts Tryz.info40
  have c0 := (B8.new w 38 (.slice x.A s.rows.length x.a) (.slice x.R s.sp.refs.length x.r) (.slice x.L s.sp.last.length x.l) (.int .i64 s.txg) (.slice x.G s.gone.length x.g) (.int .i64 s.keep) (.slice x.D s.dead.length x.d) (.bool s.same)).alloc (.cells #[.int .i64 a, .int .i64 b, .int .i64 c, .int .i64 d, .int .i64 e, .int .i64 dep, .int .i64 many] 42)
  have t0 := B7.new (w.alloc (.cells #[.slice x.A s.rows.length x.a, .slice x.R s.sp.refs.length x.r, .slice x.L s.sp.last.length x.l, .int .i64 s.txg, .slice x.G s.gone.length x.g, .int .i64 s.keep, .slice x.D s.dead.length x.d, .bool s.same] 38)) a b c d e dep many 42
  have BB : Below w.heap.size w ((w.alloc (.cells #[.slice x.A s.rows.length x.a, .slice x.R s.sp.refs.length x.r, .slice x.L s.sp.last.length x.l, .int .i64 s.txg, .slice x.G s.gone.length x.g, .int .i64 s.keep, .slice x.D s.dead.length x.d, .bool s.same] 38)).alloc (.cells #[.int .i64 a, .int .i64 b, .int .i64 c, .int .i64 d, .int .i64 e, .int .i64 dep, .int .i64 many] 42)) := bel_new (bel_new (Below.refl _ _) _) _
  rw [World.size_alloc] at t0
  have hC := fun (q : P5) (l : Nat) W (hW : Below w.heap.size w W) (hq : q.ok = true) => spec_below x s q.a q.b q.c q.d q.e l W hok ht (hA.below hW) hq
  clear hok ht hA
  go_enter Tryz.func66, Tryz.ntmps66
  go_upto_region 1 with fail
  generalize hW0 : (w.alloc (.cells #[.slice x.A s.rows.length x.a, .slice x.R s.sp.refs.length x.r, .slice x.L s.sp.last.length x.l, .int .i64 s.txg, .slice x.G s.gone.length x.g, .int .i64 s.keep, .slice x.D s.dead.length x.d, .bool s.same] 38)).alloc (.cells #[.int .i64 a, .int .i64 b, .int .i64 c, .int .i64 d, .int .i64 e, .int .i64 dep, .int .i64 many] 42) = W0 at c0 t0 BB
  clear hW0
  obtain ⟨y0, y1, y2, y3, y4, y5, y6⟩ := (t0.below (bel_new (Below.refl _ _) (.cells #[] 40))).cells
  have o1 := own_bel (World.ownsRow_made (e := 40) (base := W0.heap.size) W0 (size := 5) #[] 0 (Nat.le_refl _) (by decide) rfl) (bel_new (Below.refl _ (W0.alloc (.cells #[] 40))) (.cells #[.int .i64 a, .int .i64 b, .int .i64 c, .int .i64 d, .int .i64 e] 40))
  have o2 : ((W0.alloc (.cells #[] 40)).alloc (.cells #[.int .i64 a, .int .i64 b, .int .i64 c, .int .i64 d, .int .i64 e] 40)).ownsRow W0.heap.size 40 5 (.slice (some ⟨(W0.alloc (.cells #[] 40)).heap.size, 0, none⟩) 1 1) 1 (flat [(⟨a, b, c, d, e⟩ : P5)]) := World.ownsRow_lit (e := 40) (size := 5) (base := W0.heap.size) (W0.alloc (.cells #[] 40)) #[.int .i64 a, .int .i64 b, .int .i64 c, .int .i64 d, .int .i64 e] 1 (by simp) (by decide) rfl
  rw [World.size_alloc] at o2
  have B1 := bel_new (bel_new (Below.refl W0.heap.size W0) (.cells #[] 40)) (.cells #[.int .i64 a, .int .i64 b, .int .i64 c, .int .i64 d, .int .i64 e] 40)
  go_wp2_with fail
  go_loopg [5, 6] L.length (fun gh vo vt wr => ∃ (X : List (P5 × Br)) (out : List P5) (g2 c2 : Nat) (At : Option Addr) (c3 : Nat), gh = left X ∧ left X ≤ 25 ∧ vo = .slice (some ⟨g2, 0, none⟩) out.length c2 ∧ vt = .slice At X.length c3 ∧ wr.ownsRow W0.heap.size 40 5 (.slice (some ⟨g2, 0, none⟩) out.length c2) out.length (flat out) ∧ wr.ownsRow W0.heap.size 40 5 (.slice At X.length c3) X.length (flat (X.map (·.1))) ∧ (∀ x ∈ X, Item s x) ∧ out ++ told X = nh L ∧ Below W0.heap.size W0 wr)
  case atStart => exact ⟨[(⟨a, b, c, d, e⟩, L)], [], W0.heap.size, 0, some ⟨W0.heap.size + 1, 0, none⟩, 1, by simp [left], by simp [left]; exact hL, rfl, rfl, o1, o2, fun x hx => by rw [List.mem_singleton.1 hx]; exact hI, by simp [told], B1⟩
  case round =>
    clear o1 o2 B1 y0 y1 y2 y3 y4 y5 y6 t0
    obtain ⟨X, out, g2, c2, At, c3, hg, hl25, rfl, rfl, ho, hto, hX, htold, hb⟩ := hrel
    have HG := Lib.hid hg
    clear hg
    have sr := hb.size
    cases X with
    | nil =>
      have hout : out = nh L := by rw [← htold]; simp [told]
      subst hout
      have HF : Hid (AlPost L w (.returned (.slice (some ⟨g2, 0, none⟩) (nh L).length c2)) wr) := Lib.hid ⟨bel_then BB hb, some ⟨g2, 0, none⟩, c2, rfl, own_base ho BB.size⟩
      clear ho hto htold hX hC
      go_wp2_with fail
      go_ret
      exact HF.out
    | cons xh X =>
      obtain ⟨⟨pa, pb, pc, pd, pe⟩, M⟩ := xh
      have hIt := hX _ (List.mem_cons_self ..)
      have hX2 : ∀ y ∈ X, Item s y := fun y hy => hX y (List.mem_cons_of_mem _ hy)
      obtain ⟨g3, rfl⟩ := own_addr hto (by simp)
      have hcap : (X.length + 1) ≤ c3 := own_cap hto
      have hxl := items_len hX
      rw [List.length_cons] at hxl
      have hoL : out.length ≤ 25 := by
        have h1 := congrArg List.length htold
        rw [List.length_append] at h1
        have h2 := nh_le L
        omega
      have hlt0 : (0 : Int) < ((X.length + 1 : Nat) : Int) := by omega
      rw [List.map_cons] at hto
      have hPt := (ptrsAt_own (ps := (⟨pa, pb, pc, pd, pe⟩ : P5) :: X.map (·.1)) (by simpa using hto)).2
      obtain ⟨u0, u1, u2, u3, u4⟩ := hPt.cell0 (by simp) rfl
      have hLt := own_tail hto
      have ho1 := own_bel ho (bel_new (Below.refl _ wr) (.cells #[.int .i64 pa, .int .i64 pb, .int .i64 pc, .int .i64 pd, .int .i64 pe] 40))
      have q1 : QQ (wr.alloc (.cells #[.int .i64 pa, .int .i64 pb, .int .i64 pc, .int .i64 pd, .int .i64 pe] 40)) wr.heap.size pa pb pc pd pe := heap_alloc_new wr _
      have bn1 := bel_new (Below.refl wr.heap.size wr) (.cells #[.int .i64 pa, .int .i64 pb, .int .i64 pc, .int .i64 pd, .int .i64 pe] 40)
      have c1 := (c0.below hb).below bn1
      have B1w := bel_then (bel_then BB hb) bn1
      have hb1 := bel_then hb bn1
      have hl1 := hLt.below bn1
      have s1 : (wr.alloc (.cells #[.int .i64 pa, .int .i64 pb, .int .i64 pc, .int .i64 pd, .int .i64 pe] 40)).heap.size = wr.heap.size + 1 := by rw [World.size_alloc]
      have glo := fun k (h : (Value.slice (some ⟨g2, 0, none⟩) out.length c2).ownBlock = some k) => (ho.lt k h).2
      go_upto_region 5 with fail
      generalize hW1 : wr.alloc (.cells #[.int .i64 pa, .int .i64 pb, .int .i64 pc, .int .i64 pd, .int .i64 pe] 40) = W1 at ho1 q1 bn1 c1 B1w hb1 hl1 s1 ⊢
      clear hW1 u0 u1 u2 u3 u4 hPt hLt hto ho
      have S1 := Lib.hid s1
      clear s1
      have oe := World.ownsRow_made (e := 40) (base := W1.heap.size) W1 (size := 5) #[] 0 (Nat.le_refl _) (by decide) rfl
      have bn2 := bel_new (Below.refl W1.heap.size W1) (.cells #[] 40)
      have hl2 := hl1.below bn2
      have hXl : (X.map (·.1)).length = X.length := List.length_map ..
      have HXl := Lib.hid hXl
      have hX24 : X.length ≤ 24 := by omega
      clear hXl
      go_cut [6] (fun v wx => (∃ (A4 : Option Addr) (c4 : Nat), v = .slice A4 X.length c4 ∧ wx.ownsRow W1.heap.size 40 5 (.slice A4 X.length c4) X.length (flat (X.map (·.1)))) ∧ Below W1.heap.size W1 wx)
      case first =>
        have hmeet : ∀ (v' : Value) (w3 : World), w3.ownsRow W1.heap.size 40 5 v' X.length (flat (X.map (·.1))) → (W1.alloc (.cells #[] 40)).grownBy w3 (Value.slice (some ⟨W1.heap.size, 0, none⟩) 0 0).ownBlock → (∃ (A4 : Option Addr) (c4 : Nat), v' = .slice A4 X.length c4 ∧ w3.ownsRow W1.heap.size 40 5 (.slice A4 X.length c4) X.length (flat (X.map (·.1)))) ∧ Below W1.heap.size W1 w3 := fun v' w3 h1 h2 => by
          obtain ⟨A4, c4, rfl, _⟩ := own_lies h1
          exact ⟨⟨A4, c4, rfl, h1⟩, Fx.bel_row5 bn2 oe (Nat.le_refl _) h2⟩
        clear hC hX hX2 htold hIt hI
        by_cases hc1 : c3 = 1
        · subst hc1
          obtain rfl : X = [] := List.length_eq_zero_iff.1 (by omega)
          go_wp2_with (at_builtin; refine wpList_append_lies2 _ rfl _ _ 36 rfl W1.heap.size 40 i0 (.agg #[.int .i64 0, .int .i64 0, .int .i64 0, .int .i64 0, .int .i64 0]) 5 40 Tryz.underlying36 hi hz0 hz1 hz2 rfl (by decide) _ _ _ rfl oe (some ⟨g3, 0, none⟩) 0 0 [] rfl rfl (Lies.nil _ _) (by simp) (by decide) (by omega) bn2.size ?_)
          intro v' w3 hown hgrow
          have HM := Lib.hid (hmeet v' w3 hown hgrow)
          clear hown hgrow hmeet
          go_wp2_with fail
          go_meet
          exact HM.out
        · have hc1' : ¬ 1 = c3 := fun h => hc1 h.symm
          go_wp2_with (at_builtin; refine wpList_append_lies2 _ rfl _ _ 36 rfl W1.heap.size 40 i0 (.agg #[.int .i64 0, .int .i64 0, .int .i64 0, .int .i64 0, .int .i64 0]) 5 40 Tryz.underlying36 hi hz0 hz1 hz2 rfl (by decide) _ _ _ rfl oe (some ⟨g3, 5, none⟩) X.length (c3 - 1) (flat (X.map (·.1))) rfl (by rw [flat_len, HXl.out, Nat.mul_comm]) hl2 (flat_one _) (by unfold maxLen; omega) (by omega) bn2.size ?_)
          intro v' w3 hown hgrow
          have HM := Lib.hid (hmeet v' w3 hown hgrow)
          clear hown hgrow hmeet
          go_wp2_with fail
          go_meet
          exact HM.out
      case rest =>
        obtain ⟨⟨A4, c4, rfl, ot⟩, hb3⟩ := hcut
        obtain ⟨w3, ew3, hb3⟩ : ∃ W, W = _ ∧ Below W1.heap.size W1 W := ⟨_, rfl, hb3⟩
        subst ew3
        have ho3 := own_bel ho1 hb3
        have q3 := q1.below hb3
        have c3b := c1.below hb3
        have B3w := bel_then B1w hb3
        have hb3w := bel_then hb1 hb3
        have s3 := hb3.size
        clear oe bn1 bn2 hl1 hl2 ho1 q1 c1 B1w hb1 hb3
        obtain ⟨u0, u1, u2, u3, u4⟩ := q3.cells
        have hM := fun W => spec_hole pa pb pc pd pe W
        obtain ⟨z, hz⟩ : ∃ z, z = isHole pa pb pc pd pe := ⟨_, rfl⟩
        rw [← hz] at hM
        cases z with
        | true =>
          obtain ⟨hnh, hpos⟩ := item_hole hIt hz.symm
          simp only at hnh hpos
          rw [told_cons] at htold
          simp only [hnh, List.nil_append] at htold
          have bn4 := bel_new (Below.refl w3.heap.size w3) (.cells #[.int .i64 pa, .int .i64 pb, .int .i64 pc, .int .i64 pd, .int .i64 pe] 40)
          have HR : Hid (out ++ told X = nh L ∧ (∀ y ∈ X, Item s y) ∧ left X < left ((⟨pa, pb, pc, pd, pe⟩, M) :: X)) := Lib.hid ⟨htold, hX2, by rw [left_cons]; simp only; omega⟩
          rw [left_cons] at hl25
          clear hz hC hX hIt htold hX2 hnh
          have HM4 := Lib.hid (own_bel ot bn4)
          have HO4 := Lib.hid (own_bel ho3 bn4)
          go_wp2_with (go_at_call 72; refine (hM _).mono ?_; rintro r w4 ⟨rfl, rfl⟩)
          go_roundg (left X)
          case measure => have := HG.out; have := HR.out.2.2; omega
          case rel => exact ⟨X, out, g2, c2, A4, c4, rfl, by omega, rfl, rfl, HO4.out, own_base HM4.out (by have := S1.out; omega), HR.out.2.1, HR.out.1, bel_then hb3w bn4⟩
        | false =>
          have hh0 : P5.hole ⟨pa, pb, pc, pd, pe⟩ = false := hz.symm
          have hb5 : Below w3.heap.size w3 ((w3.alloc (.cells #[.int .i64 pa, .int .i64 pb, .int .i64 pc, .int .i64 pd, .int .i64 pe] 40)).alloc (.cells #[.int .i64 pa, .int .i64 pb, .int .i64 pc, .int .i64 pd, .int .i64 pe] 40)) := bel_new (bel_new (Below.refl _ _) _) _
          have o5 := own_bel ho3 hb5
          have ot5 := own_bel ot hb5
          have q5 := q3.below hb5
          have q4 := q3.below (bel_new (Below.refl w3.heap.size w3) (.cells #[.int .i64 pa, .int .i64 pb, .int .i64 pc, .int .i64 pd, .int .i64 pe] 40))
          have hL5 : Lies ((w3.alloc (.cells #[.int .i64 pa, .int .i64 pb, .int .i64 pc, .int .i64 pd, .int .i64 pe] 40)).alloc (.cells #[.int .i64 pa, .int .i64 pb, .int .i64 pc, .int .i64 pd, .int .i64 pe] 40)) (some ⟨w3.heap.size + 1, 0, none⟩) (P5.cells ⟨pa, pb, pc, pd, pe⟩) := by
            have q : QQ _ _ pa pb pc pd pe := heap_alloc_new (w3.alloc (.cells #[.int .i64 pa, .int .i64 pb, .int .i64 pc, .int .i64 pd, .int .i64 pe] 40)) (.cells #[.int .i64 pa, .int .i64 pb, .int .i64 pc, .int .i64 pd, .int .i64 pe] 40)
            rw [World.size_alloc] at q
            exact q.lies
          have B5w := bel_then hb3w hb5
          have hs5 : W0.heap.size ≤ ((w3.alloc (.cells #[.int .i64 pa, .int .i64 pb, .int .i64 pc, .int .i64 pd, .int .i64 pe] 40)).alloc (.cells #[.int .i64 pa, .int .i64 pb, .int .i64 pc, .int .i64 pd, .int .i64 pe] 40)).heap.size := B5w.size
          have hleafd := fun he => item_leaf hIt hh0 he
          have hdown := fun he => item_down hIt hh0 he
          have hpok := hIt.ok
          simp only at hleafd hdown hpok
          obtain ⟨k0, k1, k2, k3, k4⟩ := q4.cells
          clear hz hIt hX
          go_upto_region 8 with (first | (go_at_call 72; refine (hM _).mono ?_; rintro r w4 ⟨rfl, rfl⟩) | (at_builtin; refine wpList_append_five _ rfl _ _ 36 rfl W0.heap.size 40 i0 (.agg #[.int .i64 0, .int .i64 0, .int .i64 0, .int .i64 0, .int .i64 0]) 5 40 Tryz.underlying36 hi hz0 hz1 hz2 rfl (by decide) _ _ _ rfl o5 (some ⟨w3.heap.size + 1, 0, none⟩) 1 1 (P5.cells ⟨pa, pb, pc, pd, pe⟩) (by decide) rfl rfl hL5 (by simp [P5.cells, Value.oneCell']) (by unfold maxLen; omega) (by omega) hs5 ?_))
          intro v' w6 hown hgrow hat
          have R6 : w6.ownsRow W0.heap.size 40 5 v' (out.length + 1) (flat (out ++ [(⟨pa, pb, pc, pd, pe⟩ : P5)])) := by rw [flat_snoc']; exact hown
          have B6w : Below W0.heap.size W0 w6 := Fx.bel_row5 B5w o5 (Nat.le_refl _) hgrow
          have ot6 : w6.ownsRow W1.heap.size 40 5 (.slice A4 X.length c4) X.length (flat (X.map (·.1))) := ot5.kept hgrow (by
            cases hc : (Value.slice A4 X.length c4).ownBlock with
            | none => exact .inl rfl
            | some k => exact .inr (fun e => by have h1 := (ot5.lt k hc).1; have h2 := glo k e.symm; have := S1.out; omega))
          have q6 := q5.grown hgrow (fun e => by have h2 := glo _ e.symm; omega)
          have c6 := c0.below B6w
          have hsz : W0.heap.size ≤ W1.heap.size := by have := S1.out; omega
          obtain ⟨g9, c9, rfl⟩ := Fx.own_form5 R6 (by omega)
          clear hown hgrow hat o5 ot5 q4 q5 hL5 B5w hs5 hb5 k0 k1 k2 k3 k4 u0 u1 u2 u3 u4 q3 ot ho3 c3b B3w hb3w s3 hb3 hM hb
          obtain ⟨u0, u1, u2, u3, u4⟩ := q6.cells
          obtain ⟨x0, x1, x2, x3, x4, x5, x6, x7⟩ := c6.cells
          rw [told_cons] at htold
          simp only at htold
          by_cases hpe : 0 < pe
          · obtain ⟨l, qs, Y, he, hbel, hq4, hYq, hYI, hnh, hleft⟩ := hdown hpe
            have hB := hC ⟨pa, pb, pc, pd, pe⟩ (l + 1) w6 (bel_then BB B6w) hpok
            simp only at hB
            rw [hbel, ← he] at hB
            have hB2 : Calls Tryz.prog 80 #[.agg #[.slice x.A s.rows.length x.a, .slice x.R s.sp.refs.length x.r, .slice x.L s.sp.last.length x.l, .int .i64 s.txg, .slice x.G s.gone.length x.g, .int .i64 s.keep, .slice x.D s.dead.length x.d, .bool s.same], .agg #[.int .i64 pa, .int .i64 pb, .int .i64 pc, .int .i64 pd, .int .i64 pe], .int .i64 pe] w6 fun r w' => ∃ g c : Nat, r = .returned (.tuple #[.slice (some ⟨g, 0, none⟩) 4 c, .bool true]) ∧ Below w6.heap.size w6 w' ∧ PtrsAt w' g qs := hB.mono fun r w' h => by
              obtain ⟨h1, g, c, h2, h3, h4⟩ := h
              exact ⟨g, c, by rw [h2, hq4], h1, h4⟩
            have HQ4 := Lib.hid hq4
            have hYl : Y.length = 4 := by rw [← hq4, ← hYq, List.length_map]
            have HR : Hid ((out ++ [(⟨pa, pb, pc, pd, pe⟩ : P5)]) ++ told (Y ++ X) = nh L ∧ (∀ y ∈ Y ++ X, Item s y) ∧ left (Y ++ X) < gk ∧ left (Y ++ X) ≤ 25 ∧ (Y ++ X).length = 4 + X.length ∧ (Y ++ X).map (·.1) = qs ++ X.map (·.1)) := Lib.hid ⟨by
              rw [← htold, hnh, told_app]; simp, fun y hy => by
              rcases List.mem_append.1 hy with h | h
              · exact hYI y h
              · exact hX2 y h, by rw [HG.out, left_cons, left_app]; simp only; omega, by rw [left_cons] at hl25; simp only at hl25; rw [left_app]; omega, by rw [List.length_append, hYl], by rw [List.map_append, hYq]⟩
            clear hB hC hdown hleafd hq4 hbel hYq hYI hnh hleft htold hX2 hl25 hxl he hYl hpok hh0
            go_wp2_with (first
              | (go_at_call 80; refine hB2.mono ?_; rintro r w7 ⟨g5, c5, rfl, hb7, hp5⟩; have bn7 := bel_new (Below.refl w7.heap.size w7) (.cells #[] 40); have oe7 := World.ownsRow_made (e := 40) (base := w7.heap.size) w7 (size := 5) #[] 0 (Nat.le_refl _) (by decide) rfl; have hL7 := (ptrsAt_lies hp5).below bn7; obtain ⟨A6, c6', e6, hl6⟩ := own_lies ot6; injection e6 with eA en ec; subst eA; subst ec)
              | (at_builtin; refine wpList_append_lies2 _ rfl _ _ 36 rfl w7.heap.size 40 i0 (.agg #[.int .i64 0, .int .i64 0, .int .i64 0, .int .i64 0, .int .i64 0]) 5 40 Tryz.underlying36 hi hz0 hz1 hz2 rfl (by decide) _ _ _ rfl oe7 (some ⟨g5, 0, none⟩) 4 c5 (flat qs) rfl (by rw [flat_len, HQ4.out]) hL7 (flat_one _) (by unfold maxLen; omega) (by omega) bn7.size ?_; intro vA w8 hA8 hG8; have R8 : w8.ownsRow w7.heap.size 40 5 vA 4 (flat qs) := (by simpa using hA8); have B8w := Fx.bel_row5 bn7 oe7 (Nat.le_refl _) hG8; have hLt8 := (hl6.below hb7).below B8w)
              | (at_builtin; refine wpList_append_lies2 _ rfl _ _ 36 rfl w7.heap.size 40 i0 (.agg #[.int .i64 0, .int .i64 0, .int .i64 0, .int .i64 0, .int .i64 0]) 5 40 Tryz.underlying36 hi hz0 hz1 hz2 rfl (by decide) _ _ _ rfl R8 A4 X.length c4 (flat (X.map (·.1))) rfl (by rw [flat_len, HXl.out, Nat.mul_comm]) hLt8 (flat_one _) (by unfold maxLen; omega) (by omega) B8w.size ?_))
            intro vB w9 hB9 hG9
            have R9 : w9.ownsRow w7.heap.size 40 5 vB (Y ++ X).length (flat ((Y ++ X).map (·.1))) := by rw [HR.out.2.2.2.2.1, HR.out.2.2.2.2.2, flat_app]; exact hB9
            have B9w := Fx.bel_row5 B8w R8 (Nat.le_refl _) hG9
            have s67 := hb7.size
            have s06 := B6w.size
            have HO9 := Lib.hid (own_bel R6 (bel_then hb7 B9w))
            have HB9 := Lib.hid (bel_then B6w (bel_then hb7 B9w))
            obtain ⟨A9, k9, rfl, -⟩ := own_lies R9
            clear hA8 hG8 hB9 hG9 oe7 bn7 hL7 R8 hLt8 B8w hl6 hp5 B9w en
            go_wp2_with fail
            go_roundg (left (Y ++ X))
            case measure => exact HR.out.2.2.1
            case rel => exact ⟨Y ++ X, out ++ [⟨pa, pb, pc, pd, pe⟩], g9, c9, A9, k9, rfl, HR.out.2.2.2.1, by rw [List.length_append]; rfl, rfl, by rw [List.length_append]; exact HO9.out, own_base R9 (by omega), HR.out.2.1, HR.out.1, HB9.out⟩
          · have HR : Hid ((out ++ [(⟨pa, pb, pc, pd, pe⟩ : P5)]) ++ told X = nh L ∧ (∀ y ∈ X, Item s y) ∧ left X < gk ∧ left X ≤ 25) := Lib.hid ⟨by
              rw [← htold, hleafd (by omega)]; simp, hX2, by
              rw [HG.out, left_cons]; simp only; have := congrArg List.length (hleafd (by omega)); have := nh_le M; simp only [List.length_singleton] at *; omega, by rw [left_cons] at hl25; omega⟩
            clear hC hdown hleafd htold hX2 hl25 hxl hpok hh0
            go_wp2_with fail
            go_roundg (left X)
            case measure => exact HR.out.2.2.1
            case rel => exact ⟨X, out ++ [⟨pa, pb, pc, pd, pe⟩], g9, c9, A4, c4, rfl, HR.out.2.2.2, by rw [List.length_append]; rfl, rfl, by rw [List.length_append]; exact R6, own_base ot6 hsz, HR.out.2.1, HR.out.1, B6w⟩
end Go.Proofs.YtjmfefaoenmppaaGreatDoor
