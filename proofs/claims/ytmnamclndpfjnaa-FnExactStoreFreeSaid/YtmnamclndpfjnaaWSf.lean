/-
  FnExactStoreFree's walk.
-/
import Derived.Test.YtmnamclndpfjnaaArgS
import Derived.Test.YtmnamclndpfjnaaIsf
import Derived.Test.YtmnamclndpfjnaaStK
namespace Go.Proofs.Ytmnamclndpfjnaa
open Go.RowKit

/-- A block of five numbers, of whatever type. -/
def T5 (W : World) (g : Nat) (t : TypeId) (a b c d e : Int) : Prop := W.heap[g]? = some (.cells #[.int .i64 a, .int .i64 b, .int .i64 c, .int .i64 d, .int .i64 e] t (0, 0))
section
variable {W W' : World} {g : Nat} {t : TypeId} {a b c d e : Int}
theorem T5.new (w : World) (t : TypeId) (a b c d e : Int) : T5 (w.alloc (.cells #[.int .i64 a, .int .i64 b, .int .i64 c, .int .i64 d, .int .i64 e] t)) w.heap.size t a b c d e := heap_alloc_new w _
theorem T5.lt (h : T5 W g t a b c d e) : g < W.heap.size := (Array.getElem?_eq_some_iff.1 h).1
theorem T5.below (h : T5 W g t a b c d e) (hb : Below W.heap.size W W') : T5 W' g t a b c d e := (hb.block g h.lt).trans h
theorem T5.alloc (h : T5 W g t a b c d e) (o : Obj) : T5 (W.alloc o) g t a b c d e := (Below.heap_alloc W o g h.lt).trans h
theorem T5.drew (h : T5 W g t a b c d e) : T5 W.drew g t a b c d e := h
theorem T5.only {lo hi : Nat} (h : T5 W g t a b c d e) (hg : Only lo hi W W') (hn : ¬ (lo ≤ g ∧ g < hi)) : T5 W' g t a b c d e := (hg.block g h.lt hn).trans h
theorem T5.cell (h : T5 W g t a b c d e) (i : Nat) : W.cell? ⟨g, i, none⟩ = (#[.int .i64 a, .int .i64 b, .int .i64 c, .int .i64 d, .int .i64 e] : Array Value)[i]? := by
  have h' : W.heap[g]? = some (.cells #[.int .i64 a, .int .i64 b, .int .i64 c, .int .i64 d, .int .i64 e] t (0, 0)) := h
  simp [World.cell?, h']
theorem T5.cells (h : T5 W g t a b c d e) : W.cell? ⟨g, 0, none⟩ = some (.int .i64 a) ∧ W.cell? ⟨g, 1, none⟩ = some (.int .i64 b) ∧ W.cell? ⟨g, 2, none⟩ = some (.int .i64 c) ∧ W.cell? ⟨g, 3, none⟩ = some (.int .i64 d) ∧ W.cell? ⟨g, 4, none⟩ = some (.int .i64 e) := ⟨h.cell 0, h.cell 1, h.cell 2, h.cell 3, h.cell 4⟩
end
theorem small_free {s : St} {p : P5} (h : SmallS s) (hall : s.rows.length + s.sp.refs.length + s.sp.last.length + s.gone.length + s.dead.length ≤ 1048576) : SmallS (freeS s p) := by
  obtain ⟨a, b, c, d, f⟩ := h
  unfold freeS
  split
  · unfold freeSt
    split
    · exact ⟨a, b, c, d, f⟩
    · split
      · refine ⟨a, b, c, d, ?_⟩
        show 5 * s.gone.length + 5 * (s.dead ++ [p]).length ≤ 6000000
        rw [List.length_append, List.length_singleton]
        omega
      · split
        · refine ⟨a, b, c, d, ?_⟩
          show 5 * (s.gone ++ [p]).length + 5 * s.dead.length ≤ 6000000
          rw [List.length_append, List.length_singleton]
          omega
        · exact ⟨by rw [drop_rows]; exact a, by rw [drop_refs]; exact b, by rw [drop_last]; exact c, by rw [drop_rows, drop_refs, drop_last]; exact d, f⟩
  · exact ⟨by decide, by decide, by decide, by decide, by decide⟩
theorem b0_small : b0.size ≤ maxLen := Nat.zero_le _
theorem bulk_free {s : St} {p : P5} (h : SBulk s) (hall : s.rows.length + s.sp.refs.length + s.sp.last.length + s.gone.length + s.dead.length ≤ 1048576) : SBulk (freeS s p) := by
  unfold freeS
  split
  · rename_i hc
    have hr := P5.ok_row hc.2.1
    have hw : (Lit.int .i64 p.a).wf = true := WalkArith.wf_i64 (by omega)
    have hl := hc.1.len
    unfold freeSt
    split
    · exact h
    · split
      · refine ⟨h.rows, h.refs, h.last, h.gone, ?_, h.texts, h.txg, h.keep, ?_⟩
        · show (s.dead ++ [p]).length ≤ 1048576
          rw [List.length_append, List.length_singleton]
          omega
        · intro q hq
          rw [← List.append_assoc] at hq
          rcases List.mem_append.1 hq with hq | hq
          · exact h.nums q hq
          · rw [List.mem_singleton] at hq; subst hq; exact hw
      · split
        · refine ⟨h.rows, h.refs, h.last, ?_, h.dead, h.texts, h.txg, h.keep, ?_⟩
          · show (s.gone ++ [p]).length ≤ 1048576
            rw [List.length_append, List.length_singleton]
            omega
          · intro q hq
            rcases List.mem_append.1 hq with hq | hq
            · rcases List.mem_append.1 hq with hq | hq
              · exact h.nums q (List.mem_append.2 (.inl hq))
              · rw [List.mem_singleton] at hq; subst hq; exact hw
            · exact h.nums q (List.mem_append.2 (.inr hq))
        · refine ⟨by rw [drop_rows]; exact h.rows, by rw [drop_refs]; exact h.refs, by rw [drop_last]; exact h.last, h.gone, h.dead, ?_, h.txg, h.keep, h.nums⟩
          intro t ht
          unfold dropSt at ht
          simp only at ht
          split at ht
          · rcases List.mem_or_eq_of_mem_set ht with ht | rfl
            · exact h.texts t ht
            · exact b0_small
          · exact h.texts t ht
  · exact ⟨by decide, by decide, by decide, by decide, by decide, fun t ht => by simp [noSt] at ht, by decide, by decide, fun p hp => by simp [noSt] at hp⟩

set_option maxRecDepth 100000 in
set_option maxHeartbeats 40000000 in
theorem walk_esfree (x : SA) (s : St) (a b c d e : Int) (w : World) (hA : TArg w x s) :
    Calls Try.prog 7 #[(.agg #[.slice x.A s.rows.length x.a, .slice x.R s.sp.refs.length x.r, .slice x.L s.sp.last.length x.l, .int .i64 s.txg, .slice x.G s.gone.length x.g, .int .i64 s.keep, .slice x.D s.dead.length x.d, .bool s.same]), .agg #[.int .i64 a, .int .i64 b, .int .i64 c, .int .i64 d, .int .i64 e]] w fun r w' => r = .returned (.bool true) ∧ Below w.heap.size w w' := by
  have ba := (B8.new w 36 (.slice x.A s.rows.length x.a) (.slice x.R s.sp.refs.length x.r) (.slice x.L s.sp.last.length x.l) (.int .i64 s.txg) (.slice x.G s.gone.length x.g) (.int .i64 s.keep) (.slice x.D s.dead.length x.d) (.bool s.same)).alloc (.cells #[.int .i64 a, .int .i64 b, .int .i64 c, .int .i64 d, .int .i64 e] 42)
  have hp := T5.new (w.alloc (.cells #[.slice x.A s.rows.length x.a, .slice x.R s.sp.refs.length x.r, .slice x.L s.sp.last.length x.l, .int .i64 s.txg, .slice x.G s.gone.length x.g, .int .i64 s.keep, .slice x.D s.dead.length x.d, .bool s.same] 36)) 42 a b c d e
  rw [World.size_alloc] at hp
  have BB := bel_new (bel_new (Below.refl w.heap.size w) (.cells #[.slice x.A s.rows.length x.a, .slice x.R s.sp.refs.length x.r, .slice x.L s.sp.last.length x.l, .int .i64 s.txg, .slice x.G s.gone.length x.g, .int .i64 s.keep, .slice x.D s.dead.length x.d, .bool s.same] 36)) (.cells #[.int .i64 a, .int .i64 b, .int .i64 c, .int .i64 d, .int .i64 e] 42)
  have hTp : ∀ W, Calls Try.prog 21 #[.agg #[.int .i64 a, .int .i64 b, .int .i64 c, .int .i64 d, .int .i64 e]] W fun r w' => r = .returned (.agg #[.int .i64 a, .int .i64 b, .int .i64 c, .int .i64 d, .int .i64 e]) ∧ Below W.heap.size W w' := fun W => (to_ptr a b c d e W).mono fun r w' ⟨h1, h2⟩ => ⟨h1, by subst h2; exact bel_new (bel_new (bel_new (Below.refl _ _) _) _) _⟩
  have hS := fun W (hW : Below w.heap.size w W) => sz_store x s 1048576 W (by omega) (by omega) hA.rows hA.refs hA.last hA.gone hA.dead hA.texts (hA.at_.rows.below hW)
  go_enter Try.func7, Try.ntmps7
  go_wp2_with (go_at_call 16; refine (hS _ BB).mono ?_; rintro r w1 ⟨z, rfl, hb1, hz⟩; refine Hid.out ?_)
  refine Lib.hid ?_
  have sw1 := hb1.size
  simp only [World.size_alloc] at sw1
  have ba := ba.below hb1
  have hp := hp.below hb1
  have BB := bel_then BB hb1
  clear hS hb1
  obtain ⟨x0, x1, x2, x3, x4, x5, x6, x7⟩ := ba.cells
  by_cases hzz : z < 0
  · go_wp2_with fail
    go_ret
    exact ⟨rfl, BB⟩
  have hzn : ¬ z < 0 := hzz
  have hsum := hz.sum (by omega)
  have hbk : SBulk s := ⟨by omega, by omega, by omega, by omega, by omega, hA.texts, hA.wtxg, hA.wkeep, hA.nums⟩
  have hsm : SmallS s := ⟨by omega, by omega, by omega, by omega, by omega⟩
  have hat := hA.at_
  have hT := fun W (hW : Below w.heap.size w W) => to_store x s W hbk (hat.below hW)
  have hall : s.rows.length + s.sp.refs.length + s.sp.last.length + s.gone.length + s.dead.length ≤ 1048576 := by omega
  clear hA hz hsum
  have hV := fun (y : SA) (W : World) (h : StAt W y s) => spec_sfree y s a b c d e W hbk h
  have hI := fun {W' : World} {b0 t0 : Nat} (y : SA) (W : World) (h : StAt W y s) (h0 : Own W' b0 t0 (rows5 y s)) => impl_sfree y s a b c d e W hbk h h0.cap
  have hbn := bulk_free (p := (⟨a, b, c, d, e⟩ : P5)) hbk hall
  have hsn := small_free (p := (⟨a, b, c, d, e⟩ : P5)) hsm hall
  obtain ⟨n, hn⟩ : ∃ n, n = freeS s (⟨a, b, c, d, e⟩ : P5) := ⟨_, rfl⟩
  obtain ⟨q, hq⟩ : ∃ q, q = freeF s (⟨a, b, c, d, e⟩ : P5) := ⟨_, rfl⟩
  simp only [← hn, ← hq] at hV hI
  rw [← hn] at hbn hsn
  clear hn hq hall
  unfold TPost2 at hV hI
  have qq : (q != q) = false := by simp
  obtain ⟨m, hm⟩ : ∃ m, m = mk4 n := ⟨_, rfl⟩
  have nm : ¬ m < 0 := by rw [hm]; unfold mk4 mk3 mk2 mk1; omega
  have nn : (m != m) = false := by simp
  have hH := fun {w : World} {base top : Nat} {x : SA} (h : Own w base top (rowsM x n)) => held_store hsn h
  have hM := fun {w : World} {base top : Nat} {x : SA} (htop : top ≤ w.heap.size) (h : Own w base top (rows5 x n)) => mark_store hsn htop h
  unfold MkPost at hM
  simp only [← hm] at hM hH
  clear hm
  obtain ⟨m0, hm0⟩ : ∃ m, m = mk4 s := ⟨_, rfl⟩
  have nm0 : ¬ m0 < 0 := by rw [hm0]; unfold mk4 mk3 mk2 mk1; omega
  have hM0 := fun {w : World} {base top : Nat} {x : SA} (htop : top ≤ w.heap.size) (h : Own w base top (rows5 x s)) => mark_store hsm htop h
  unfold MkPost at hM0
  simp only [← hm0] at hM0
  clear hm0
  have CB := Below.refl w1.heap.size w1
  have hl2 := hp.lt
  have hl1 := ba.lt
  obtain ⟨q0, q1, q2, q3, q4⟩ := hp.cells
  have e1 := World.size_drew w1
  go_upto_region 5 with fail
  go_cut [6, 7] (fun v0 v1 wx => ∃ (xv : SA) (m lo hi : Nat), v0 = .pointer (some ⟨m, 0, none⟩) ∧ v1 = .bool q ∧ B8 wx m 28 (.slice xv.A n.rows.length xv.a) (.slice xv.R n.sp.refs.length xv.r) (.slice xv.L n.sp.last.length xv.l) (.int .i64 n.txg) (.slice xv.G n.gone.length xv.g) (.int .i64 n.keep) (.slice xv.D n.dead.length xv.d) (.bool n.same) ∧ Own wx lo hi (rows5 xv n) ∧ Below w1.heap.size w1 wx ∧ (m < lo ∨ hi ≤ m) ∧ w1.heap.size ≤ m ∧ w1.heap.size ≤ lo ∧ hi ≤ wx.heap.size ∧ m < wx.heap.size)
  case first =>
    first
      | go_region_with (first
              | (go_at_call 26; first
                | (refine (hV xt wb fb.at5).mono ?_; rintro rr wc ⟨xv, rfl, fv, hbc⟩; have KC := bel_then KB hbc; (try have dz := dz.below hbc); (try obtain ⟨⟨z0, z1, z2, z3, z4, z5, z6, z7⟩, f0, f1, f2, f3, f4, f5, f6, f7⟩ := (⟨dz.cells, dz.fro⟩ : _ ∧ _)))
                | (refine (hV xt (wb.alloc (.cells #[.slice none 0 0, .slice none 0 0, .slice none 0 0, .int .i64 0, .slice none 0 0, .int .i64 0, .slice none 0 0, .bool false] 28)) (fb.alloc _).at5).mono ?_; rintro rr wc ⟨xv, rfl, fv, hbc⟩; have KC := bel_then (bel_new KB _) hbc; have dz := (B8.new wb 28 (.slice none 0 0) (.slice none 0 0) (.slice none 0 0) (.int .i64 0) (.slice none 0 0) (.int .i64 0) (.slice none 0 0) (.bool false)).below hbc; obtain ⟨⟨z0, z1, z2, z3, z4, z5, z6, z7⟩, f0, f1, f2, f3, f4, f5, f6, f7⟩ := (⟨dz.cells, dz.fro⟩ : _ ∧ _)))
              | (go_at_call 21; first
                | (refine (hTp wa).mono ?_; rintro rr wb ⟨rfl, hbb⟩; have KB := bel_then KA hbb; have fb := ft.below hbb; have lb := (pa.below hbb).lt; (try have dz := dz.below hbb))
                | (refine (hTp (wa.alloc (.cells #[.slice none 0 0, .slice none 0 0, .slice none 0 0, .int .i64 0, .slice none 0 0, .int .i64 0, .slice none 0 0, .bool false] 28))).mono ?_; rintro rr wb ⟨rfl, hbb⟩; have KB := bel_then (bel_new KA _) hbb; have fb := (ft.alloc _).below hbb; have lb := ((pa.alloc _).below hbb).lt; have dz : B8 wb wa.heap.size 28 (.slice none 0 0) (.slice none 0 0) (.slice none 0 0) (.int .i64 0) (.slice none 0 0) (.int .i64 0) (.slice none 0 0) (.bool false) := (B8.new wa 28 (.slice none 0 0) (.slice none 0 0) (.slice none 0 0) (.int .i64 0) (.slice none 0 0) (.int .i64 0) (.slice none 0 0) (.bool false)).below hbb))
              | (go_at_call 18; first
                | (refine (hT _ BB.drew).mono ?_; rintro rr wa ⟨xt, rfl, ft, hba⟩; have KA := bel_then CB.drew hba; have pa := hp.drew.below hba; have la := pa.lt; obtain ⟨q0, q1, q2, q3, q4⟩ := pa.cells)
                | (refine (hT _ (bel_new BB.drew _)).mono ?_; rintro rr wa ⟨xt, rfl, ft, hba⟩; have KA := bel_then (bel_new CB.drew _) hba; have pa := (hp.drew.alloc _).below hba; have la := pa.lt; have dz : B8 wa w1.heap.size 28 (.slice none 0 0) (.slice none 0 0) (.slice none 0 0) (.int .i64 0) (.slice none 0 0) (.int .i64 0) (.slice none 0 0) (.bool false) := (B8.new w1.drew 28 (.slice none 0 0) (.slice none 0 0) (.slice none 0 0) (.int .i64 0) (.slice none 0 0) (.int .i64 0) (.slice none 0 0) (.bool false)).below hba; obtain ⟨q0, q1, q2, q3, q4⟩ := pa.cells)))
      | fail "region 5"
    all_goals go_wp2_with fail
    all_goals (try go_simp)
    all_goals go_meet
    all_goals have n2 := hbb.size
    all_goals have n3 := hbc.size
    all_goals have n4 := KB.size
    all_goals (try have n5 := hba.size)
    all_goals (try simp only [World.size_alloc, World.size_drew] at n2 n3 n5)
    all_goals (try simp only [World.size_alloc, World.size_drew] at n2 n3)
    all_goals (try simp only [World.size_alloc, World.size_drew] at n2)
    all_goals (try simp only [World.size_alloc, World.size_drew] at n3)
    all_goals first
      | (refine ⟨xv, _, _, _, rfl, rfl, (by with_reducible exact B8.new wc 28 (.slice xv.A n.rows.length xv.a) (.slice xv.R n.sp.refs.length xv.r) (.slice xv.L n.sp.last.length xv.l) (.int .i64 n.txg) (.slice xv.G n.gone.length xv.g) (.int .i64 n.keep) (.slice xv.D n.dead.length xv.d) (.bool n.same)), (by with_reducible exact fv.alloc _), (by with_reducible exact bel_new KC _), ?_, ?_, ?_, ?_, ?_⟩ <;> (try simp only [World.size_alloc]) <;> omega)
      | (refine ⟨xv, _, _, _, rfl, rfl, (by with_reducible exact set8_box dz), (by with_reducible exact set8_ownB fv dz), (by with_reducible exact set8_bel KC (by omega)), ?_, ?_, ?_, ?_, ?_⟩ <;> (try simp only [World.size_alloc, size_set]) <;> omega)
  case rest =>
    obtain ⟨xv, mv, lov, hiv, rfl, rfl, bv, fv, hb2, iv, j1v, j2v, j3v, j4v⟩ := hcut
    obtain ⟨w2, ew2, bv, fv, hb2, j3v, j4v⟩ : ∃ W, W = _ ∧ B8 W mv 28 (.slice xv.A n.rows.length xv.a) (.slice xv.R n.sp.refs.length xv.r) (.slice xv.L n.sp.last.length xv.l) (.int .i64 n.txg) (.slice xv.G n.gone.length xv.g) (.int .i64 n.keep) (.slice xv.D n.dead.length xv.d) (.bool n.same) ∧ Own W lov hiv (rows5 xv n) ∧ Below w1.heap.size w1 W ∧ hiv ≤ W.heap.size ∧ mv < W.heap.size := ⟨_, rfl, bv, fv, hb2, j3v, j4v⟩
    subst ew2
    have sw2 := hb2.size
    have ba := ba.below hb2
    have hp := hp.below hb2
    have BB := bel_then BB hb2
    clear q0 q1 q2 q3 q4 hl1 hl2 CB e1 hb2
    clear x0 x1 x2 x3 x4 x5 x6 x7
    obtain ⟨x0, x1, x2, x3, x4, x5, x6, x7⟩ := ba.cells
    go_wp2_with (go_at_call 18; refine (hT _ BB).mono ?_; rintro r w3 ⟨xx, rfl, fx, hb3⟩; refine Hid.out ?_)
    refine Lib.hid ?_
    have sw3 := hb3.size
    have ba := ba.below hb3
    have bv := bv.below hb3
    have fv := fv.below hb3
    have hp := hp.below hb3
    have BB := bel_then BB hb3
    clear hb3
    have bl : Below w3.heap.size w3 (w3.alloc (.cells #[.slice xx.A s.rows.length xx.a, .slice xx.R s.sp.refs.length xx.r, .slice xx.L s.sp.last.length xx.l, .int .i64 s.txg, .slice xx.G s.gone.length xx.g, .int .i64 s.keep, .slice xx.D s.dead.length xx.d, .bool s.same] 28)) := (Below.refl _ _).alloc (Nat.le_refl _) _
    have bx := B8.new w3 28 (.slice xx.A s.rows.length xx.a) (.slice xx.R s.sp.refs.length xx.r) (.slice xx.L s.sp.last.length xx.l) (.int .i64 s.txg) (.slice xx.G s.gone.length xx.g) (.int .i64 s.keep) (.slice xx.D s.dead.length xx.d) (.bool s.same)
    have saw3 : w3.heap.size < (w3.alloc (.cells #[.slice xx.A s.rows.length xx.a, .slice xx.R s.sp.refs.length xx.r, .slice xx.L s.sp.last.length xx.l, .int .i64 s.txg, .slice xx.G s.gone.length xx.g, .int .i64 s.keep, .slice xx.D s.dead.length xx.d, .bool s.same] 28)).heap.size := by rw [World.size_alloc]; exact Nat.lt_succ_self _
    have ba := ba.below bl
    have bv := bv.below bl
    have fv := fv.below bl
    have fx := fx.below bl
    have hp := hp.below bl
    have BB := bel_then BB bl
    clear bl
    clear x0 x1 x2 x3 x4 x5 x6 x7
    obtain ⟨x0, x1, x2, x3, x4, x5, x6, x7⟩ := bx.cells
    go_upto_region 7 with fail
    have sX : w3.heap.size < (w3.alloc (.cells #[.slice xx.A s.rows.length xx.a, .slice xx.R s.sp.refs.length xx.r, .slice xx.L s.sp.last.length xx.l, .int .i64 s.txg, .slice xx.G s.gone.length xx.g, .int .i64 s.keep, .slice xx.D s.dead.length xx.d, .bool s.same] 28)).heap.size := by rw [World.size_alloc]; exact Nat.lt_succ_self _
    obtain ⟨w3x, ew3x⟩ : ∃ W, W = (w3.alloc (.cells #[.slice xx.A s.rows.length xx.a, .slice xx.R s.sp.refs.length xx.r, .slice xx.L s.sp.last.length xx.l, .int .i64 s.txg, .slice xx.G s.gone.length xx.g, .int .i64 s.keep, .slice xx.D s.dead.length xx.d, .bool s.same] 28)) := ⟨_, rfl⟩
    rw [← ew3x] at ba bv bx fv fx hp BB sX x0 x1 x2 x3 x4 x5 x6 x7 ⊢
    clear ew3x
    have hIx := fun (y : SA) (W : World) (h : StAt W xx s) => hI xx W h fx
    have CB := Below.refl w3x.heap.size w3x
    have hl2 := hp.lt
    have hl1 := bx.lt
    obtain ⟨q0, q1, q2, q3, q4⟩ := hp.cells
    have e1 := World.size_drew w3x
    go_upto_region 7 with fail
    go_cut [9, 10] (fun v0 v1 wx => ∃ (xu : SA) (m lo hi : Nat), v0 = .pointer (some ⟨m, 0, none⟩) ∧ v1 = .bool q ∧ B8 wx m 28 (.slice xu.A n.rows.length xu.a) (.slice xu.R n.sp.refs.length xu.r) (.slice xu.L n.sp.last.length xu.l) (.int .i64 n.txg) (.slice xu.G n.gone.length xu.g) (.int .i64 n.keep) (.slice xu.D n.dead.length xu.d) (.bool n.same) ∧ Own wx lo hi (rows5 xu n) ∧ Below w3x.heap.size w3x wx ∧ (m < lo ∨ hi ≤ m) ∧ w3x.heap.size ≤ m ∧ w3x.heap.size ≤ lo ∧ hi ≤ wx.heap.size ∧ m < wx.heap.size)
    case first =>
      first
        | go_region_with (first
                | (go_at_call 27; first
                  | (refine (hIx xx wb fb.at5).mono ?_; rintro rr wc ⟨xu, rfl, fu, hbc⟩; have KC := bel_then KB hbc; (try have dz := dz.below hbc); (try obtain ⟨⟨z0, z1, z2, z3, z4, z5, z6, z7⟩, f0, f1, f2, f3, f4, f5, f6, f7⟩ := (⟨dz.cells, dz.fro⟩ : _ ∧ _)))
                  | (refine (hIx xx (wb.alloc (.cells #[.slice none 0 0, .slice none 0 0, .slice none 0 0, .int .i64 0, .slice none 0 0, .int .i64 0, .slice none 0 0, .bool false] 28)) (fb.alloc _).at5).mono ?_; rintro rr wc ⟨xu, rfl, fu, hbc⟩; have KC := bel_then (bel_new KB _) hbc; have dz := (B8.new wb 28 (.slice none 0 0) (.slice none 0 0) (.slice none 0 0) (.int .i64 0) (.slice none 0 0) (.int .i64 0) (.slice none 0 0) (.bool false)).below hbc; obtain ⟨⟨z0, z1, z2, z3, z4, z5, z6, z7⟩, f0, f1, f2, f3, f4, f5, f6, f7⟩ := (⟨dz.cells, dz.fro⟩ : _ ∧ _)))
                | (go_at_call 21; first
                  | (refine (hTp w3x.drew).mono ?_; rintro rr wb ⟨rfl, hbb⟩; have KB := bel_then CB.drew hbb; have fb := fx.drew.below hbb; have lb := (hp.drew.below hbb).lt; (try have dz := dz.below hbb); obtain ⟨y0, y1, y2, y3, y4, y5, y6, y7⟩ := (bx.drew.below hbb).cells; have lx := (bx.drew.below hbb).lt)
                  | (refine (hTp (w3x.drew.alloc (.cells #[.slice none 0 0, .slice none 0 0, .slice none 0 0, .int .i64 0, .slice none 0 0, .int .i64 0, .slice none 0 0, .bool false] 28))).mono ?_; rintro rr wb ⟨rfl, hbb⟩; have KB := bel_then (bel_new CB.drew _) hbb; have fb := (fx.drew.alloc _).below hbb; have lb := ((hp.drew.alloc _).below hbb).lt; have dz : B8 wb w3x.heap.size 28 (.slice none 0 0) (.slice none 0 0) (.slice none 0 0) (.int .i64 0) (.slice none 0 0) (.int .i64 0) (.slice none 0 0) (.bool false) := (B8.new w3x.drew 28 (.slice none 0 0) (.slice none 0 0) (.slice none 0 0) (.int .i64 0) (.slice none 0 0) (.int .i64 0) (.slice none 0 0) (.bool false)).below hbb; obtain ⟨y0, y1, y2, y3, y4, y5, y6, y7⟩ := ((bx.drew.alloc _).below hbb).cells; have lx := ((bx.drew.alloc _).below hbb).lt)))
        | fail "region 7"
      all_goals go_wp2_with fail
      all_goals (try go_simp)
      all_goals go_meet
      all_goals have n2 := hbb.size
      all_goals have n3 := hbc.size
      all_goals have n4 := KB.size
      all_goals (try have n5 := hba.size)
      all_goals (try simp only [World.size_alloc, World.size_drew] at n2 n3 n5)
      all_goals (try simp only [World.size_alloc, World.size_drew] at n2 n3)
      all_goals (try simp only [World.size_alloc, World.size_drew] at n2)
      all_goals (try simp only [World.size_alloc, World.size_drew] at n3)
      all_goals first
        | (refine ⟨xu, _, _, _, rfl, rfl, (by with_reducible exact B8.new wc 28 (.slice xu.A n.rows.length xu.a) (.slice xu.R n.sp.refs.length xu.r) (.slice xu.L n.sp.last.length xu.l) (.int .i64 n.txg) (.slice xu.G n.gone.length xu.g) (.int .i64 n.keep) (.slice xu.D n.dead.length xu.d) (.bool n.same)), (by with_reducible exact fu.alloc _), (by with_reducible exact bel_new KC _), ?_, ?_, ?_, ?_, ?_⟩ <;> (try simp only [World.size_alloc]) <;> omega)
        | (refine ⟨xu, _, _, _, rfl, rfl, (by with_reducible exact set8_box dz), (by with_reducible exact set8_ownB fu dz), (by with_reducible exact set8_bel KC (by omega)), ?_, ?_, ?_, ?_, ?_⟩ <;> (try simp only [World.size_alloc, size_set]) <;> omega)
    case rest =>
      obtain ⟨xu, mu, lou, hiu, rfl, rfl, bu, fu, hb4, iu, j1u, j2u, j3u, j4u⟩ := hcut
      obtain ⟨w4, ew4, bu, fu, hb4, j3u, j4u⟩ : ∃ W, W = _ ∧ B8 W mu 28 (.slice xu.A n.rows.length xu.a) (.slice xu.R n.sp.refs.length xu.r) (.slice xu.L n.sp.last.length xu.l) (.int .i64 n.txg) (.slice xu.G n.gone.length xu.g) (.int .i64 n.keep) (.slice xu.D n.dead.length xu.d) (.bool n.same) ∧ Own W lou hiu (rows5 xu n) ∧ Below w3x.heap.size w3x W ∧ hiu ≤ W.heap.size ∧ mu < W.heap.size := ⟨_, rfl, bu, fu, hb4, j3u, j4u⟩
      subst ew4
      have sw4 := hb4.size
      have ba := ba.below hb4
      have bv := bv.below hb4
      have bx := bx.below hb4
      have fv := fv.below hb4
      have fx := fx.below hb4
      have hp := hp.below hb4
      have BB := bel_then BB hb4
      clear q0 q1 q2 q3 q4 hl1 hl2 CB e1 hb4
      clear x0 x1 x2 x3 x4 x5 x6 x7
      have E := eq_store (w := w4) hbn fu fv
      obtain ⟨x0, x1, x2, x3, x4, x5, x6, x7⟩ := bu.cells
      obtain ⟨y0, y1, y2, y3, y4, y5, y6, y7⟩ := bv.cells
      go_wp2_with (go_at_call 13; refine (E).mono ?_; rintro r w5 ⟨rfl, hb5⟩; refine Hid.out ?_)
      refine Lib.hid ?_
      have sw5 := hb5.size
      have ba := ba.below hb5
      have bv := bv.below hb5
      have bx := bx.below hb5
      have bu := bu.below hb5
      have fv := fv.below hb5
      have fx := fx.below hb5
      have fu := fu.below hb5
      have hp := hp.below hb5
      have BB := bel_then BB hb5
      clear E hb5
      clear x0 x1 x2 x3 x4 x5 x6 x7
      clear y0 y1 y2 y3 y4 y5 y6 y7
      obtain ⟨x0, x1, x2, x3, x4, x5, x6, x7⟩ := bx.cells
      obtain ⟨y0, y1, y2, y3, y4, y5, y6, y7⟩ := ba.cells
      have hTd := hT w5.drew BB.drew
      have fd := fx.drew
      go_upto_region 10 with fail
      go_cut [51] (fun s wx => s = .bool false ∧ Below w5.heap.size w5 wx)
      case first =>
        first
          | go_region_with (first
            | (go_at_call 18; refine hTd.mono ?_; rintro r w6 ⟨xt, rfl, ft, hb6⟩; obtain ⟨x0, x1, x2, x3, x4, x5, x6, x7⟩ := (B8.below (W := w5.drew) bx hb6).cells; have E := eq_store (w := w6) hbk (fd.below hb6) ft)
            | (go_at_call 13; refine E.mono ?_; rintro r w7 ⟨rfl, hb7⟩))
          | fail "region"
        all_goals go_wp2_with fail
        all_goals go_meet
        all_goals exact ⟨rfl, bel_then (bel_then (Below.refl _ _).drew hb6) hb7⟩
      case rest =>
        obtain ⟨rfl, hb7⟩ := hcut
        obtain ⟨w7, ew7, hb7⟩ : ∃ W, W = _ ∧ Below w5.heap.size w5 W := ⟨_, rfl, hb7⟩
        subst ew7
        have sw7 := hb7.size
        have ba := ba.below hb7
        have bv := bv.below hb7
        have bx := bx.below hb7
        have bu := bu.below hb7
        have fv := fv.below hb7
        have fx := fx.below hb7
        have fu := fu.below hb7
        have hp := hp.below hb7
        have BB := bel_then BB hb7
        clear hTd fd hb7
        clear x0 x1 x2 x3 x4 x5 x6 x7
        clear y0 y1 y2 y3 y4 y5 y6 y7
        obtain ⟨x0, x1, x2, x3, x4, x5, x6, x7⟩ := bx.cells
        have M := hM0 (by omega) fx
        clear fx
        go_wp2_with (go_at_call 14; refine (M).mono ?_; rintro r w8 ⟨rfl, fx, on⟩; refine Hid.out ?_)
        refine Lib.hid ?_
        have sw8 := on.size
        have BB := BB.trans (on.below (B := w.heap.size) (by omega) (by omega))
        have ba := ba.only on (by omega)
        have bv := bv.only on (by omega)
        have bx := bx.only on (by omega)
        have bu := bu.only on (by omega)
        have fv := fv.only on (by omega)
        have fu := fu.only on (by omega)
        have hp := hp.only on (by omega)
        clear M on fx
        clear x0 x1 x2 x3 x4 x5 x6 x7
        have E := eq_store (w := w8) hbn fu fv
        obtain ⟨x0, x1, x2, x3, x4, x5, x6, x7⟩ := bu.cells
        obtain ⟨y0, y1, y2, y3, y4, y5, y6, y7⟩ := bv.cells
        go_wp2_with (go_at_call 13; refine (E).mono ?_; rintro r w9 ⟨rfl, hb9⟩; refine Hid.out ?_)
        refine Lib.hid ?_
        have sw9 := hb9.size
        have ba := ba.below hb9
        have bv := bv.below hb9
        have bx := bx.below hb9
        have bu := bu.below hb9
        have fv := fv.below hb9
        have fu := fu.below hb9
        have hp := hp.below hb9
        have BB := bel_then BB hb9
        clear E hb9
        clear x0 x1 x2 x3 x4 x5 x6 x7
        clear y0 y1 y2 y3 y4 y5 y6 y7
        obtain ⟨x0, x1, x2, x3, x4, x5, x6, x7⟩ := bu.cells
        have M := hM (by omega) fu
        clear fu
        go_wp2_with (go_at_call 14; refine (M).mono ?_; rintro r w10 ⟨rfl, fu, on⟩; refine Hid.out ?_)
        refine Lib.hid ?_
        have sw10 := on.size
        have BB := BB.trans (on.below (B := w.heap.size) (by omega) (by omega))
        have ba := ba.only on (by omega)
        have bv := bv.only on (by omega)
        have bx := bx.only on (by omega)
        have bu := bu.only on (by omega)
        have fv := fv.only on (by omega)
        have hp := hp.only on (by omega)
        clear M on
        clear x0 x1 x2 x3 x4 x5 x6 x7
        obtain ⟨x0, x1, x2, x3, x4, x5, x6, x7⟩ := bu.cells
        have H := hH fu
        go_wp2_with (go_at_call 15; refine (H).mono ?_; rintro r w11 ⟨rfl, hb11⟩; refine Hid.out ?_)
        refine Lib.hid ?_
        have sw11 := hb11.size
        have ba := ba.below hb11
        have bv := bv.below hb11
        have bx := bx.below hb11
        have bu := bu.below hb11
        have fv := fv.below hb11
        have fu := fu.below hb11
        have hp := hp.below hb11
        have BB := bel_then BB hb11
        clear H hb11
        clear x0 x1 x2 x3 x4 x5 x6 x7
        obtain ⟨x0, x1, x2, x3, x4, x5, x6, x7⟩ := ba.cells
        have hIy := fun {b0 t0 : Nat} (y : SA) (W : World) (h0 : Own W b0 t0 (rows5 y s)) => hI y W h0.at5 h0
        have CB := Below.refl w11.heap.size w11
        have hl2 := hp.lt
        have hl1 := ba.lt
        obtain ⟨q0, q1, q2, q3, q4⟩ := hp.cells
        have e1 := World.size_drew w11
        go_upto_region 24 with fail
        go_cut [14, 15] (fun v0 v1 wx => ∃ (xz : SA) (m lo hi : Nat), v0 = .pointer (some ⟨m, 0, none⟩) ∧ v1 = .bool q ∧ B8 wx m 28 (.slice xz.A n.rows.length xz.a) (.slice xz.R n.sp.refs.length xz.r) (.slice xz.L n.sp.last.length xz.l) (.int .i64 n.txg) (.slice xz.G n.gone.length xz.g) (.int .i64 n.keep) (.slice xz.D n.dead.length xz.d) (.bool n.same) ∧ Own wx lo hi (rows5 xz n) ∧ Below w11.heap.size w11 wx ∧ (m < lo ∨ hi ≤ m) ∧ w11.heap.size ≤ m ∧ w11.heap.size ≤ lo ∧ hi ≤ wx.heap.size ∧ m < wx.heap.size)
        case first =>
          first
            | go_region_with (first
                    | (go_at_call 27; first
                      | (refine (hIy xt wb fb).mono ?_; rintro rr wc ⟨xz, rfl, fz, hbc⟩; have KC := bel_then KB hbc; (try have dz := dz.below hbc); (try obtain ⟨⟨z0, z1, z2, z3, z4, z5, z6, z7⟩, f0, f1, f2, f3, f4, f5, f6, f7⟩ := (⟨dz.cells, dz.fro⟩ : _ ∧ _)))
                      | (refine (hIy xt (wb.alloc (.cells #[.slice none 0 0, .slice none 0 0, .slice none 0 0, .int .i64 0, .slice none 0 0, .int .i64 0, .slice none 0 0, .bool false] 28)) (fb.alloc _)).mono ?_; rintro rr wc ⟨xz, rfl, fz, hbc⟩; have KC := bel_then (bel_new KB _) hbc; have dz := (B8.new wb 28 (.slice none 0 0) (.slice none 0 0) (.slice none 0 0) (.int .i64 0) (.slice none 0 0) (.int .i64 0) (.slice none 0 0) (.bool false)).below hbc; obtain ⟨⟨z0, z1, z2, z3, z4, z5, z6, z7⟩, f0, f1, f2, f3, f4, f5, f6, f7⟩ := (⟨dz.cells, dz.fro⟩ : _ ∧ _)))
                    | (go_at_call 21; first
                      | (refine (hTp wa).mono ?_; rintro rr wb ⟨rfl, hbb⟩; have KB := bel_then KA hbb; have fb := ft.below hbb; have lb := (pa.below hbb).lt; (try have dz := dz.below hbb))
                      | (refine (hTp (wa.alloc (.cells #[.slice none 0 0, .slice none 0 0, .slice none 0 0, .int .i64 0, .slice none 0 0, .int .i64 0, .slice none 0 0, .bool false] 28))).mono ?_; rintro rr wb ⟨rfl, hbb⟩; have KB := bel_then (bel_new KA _) hbb; have fb := (ft.alloc _).below hbb; have lb := ((pa.alloc _).below hbb).lt; have dz : B8 wb wa.heap.size 28 (.slice none 0 0) (.slice none 0 0) (.slice none 0 0) (.int .i64 0) (.slice none 0 0) (.int .i64 0) (.slice none 0 0) (.bool false) := (B8.new wa 28 (.slice none 0 0) (.slice none 0 0) (.slice none 0 0) (.int .i64 0) (.slice none 0 0) (.int .i64 0) (.slice none 0 0) (.bool false)).below hbb))
                    | (go_at_call 18; first
                      | (refine (hT _ BB.drew).mono ?_; rintro rr wa ⟨xt, rfl, ft, hba⟩; have KA := bel_then CB.drew hba; have pa := hp.drew.below hba; have la := pa.lt; obtain ⟨q0, q1, q2, q3, q4⟩ := pa.cells)
                      | (refine (hT _ (bel_new BB.drew _)).mono ?_; rintro rr wa ⟨xt, rfl, ft, hba⟩; have KA := bel_then (bel_new CB.drew _) hba; have pa := (hp.drew.alloc _).below hba; have la := pa.lt; have dz : B8 wa w11.heap.size 28 (.slice none 0 0) (.slice none 0 0) (.slice none 0 0) (.int .i64 0) (.slice none 0 0) (.int .i64 0) (.slice none 0 0) (.bool false) := (B8.new w11.drew 28 (.slice none 0 0) (.slice none 0 0) (.slice none 0 0) (.int .i64 0) (.slice none 0 0) (.int .i64 0) (.slice none 0 0) (.bool false)).below hba; obtain ⟨q0, q1, q2, q3, q4⟩ := pa.cells)))
            | fail "region 24"
          all_goals go_wp2_with fail
          all_goals (try go_simp)
          all_goals go_meet
          all_goals have n2 := hbb.size
          all_goals have n3 := hbc.size
          all_goals have n4 := KB.size
          all_goals (try have n5 := hba.size)
          all_goals (try simp only [World.size_alloc, World.size_drew] at n2 n3 n5)
          all_goals (try simp only [World.size_alloc, World.size_drew] at n2 n3)
          all_goals (try simp only [World.size_alloc, World.size_drew] at n2)
          all_goals (try simp only [World.size_alloc, World.size_drew] at n3)
          all_goals first
            | (refine ⟨xz, _, _, _, rfl, rfl, (by with_reducible exact B8.new wc 28 (.slice xz.A n.rows.length xz.a) (.slice xz.R n.sp.refs.length xz.r) (.slice xz.L n.sp.last.length xz.l) (.int .i64 n.txg) (.slice xz.G n.gone.length xz.g) (.int .i64 n.keep) (.slice xz.D n.dead.length xz.d) (.bool n.same)), (by with_reducible exact fz.alloc _), (by with_reducible exact bel_new KC _), ?_, ?_, ?_, ?_, ?_⟩ <;> (try simp only [World.size_alloc]) <;> omega)
            | (refine ⟨xz, _, _, _, rfl, rfl, (by with_reducible exact set8_box dz), (by with_reducible exact set8_ownB fz dz), (by with_reducible exact set8_bel KC (by omega)), ?_, ?_, ?_, ?_, ?_⟩ <;> (try simp only [World.size_alloc, size_set]) <;> omega)
        case rest =>
          obtain ⟨xz, mz, loz, hiz, rfl, rfl, bz, fz, hb12, iz, j1z, j2z, j3z, j4z⟩ := hcut
          obtain ⟨w12, ew12, bz, fz, hb12, j3z, j4z⟩ : ∃ W, W = _ ∧ B8 W mz 28 (.slice xz.A n.rows.length xz.a) (.slice xz.R n.sp.refs.length xz.r) (.slice xz.L n.sp.last.length xz.l) (.int .i64 n.txg) (.slice xz.G n.gone.length xz.g) (.int .i64 n.keep) (.slice xz.D n.dead.length xz.d) (.bool n.same) ∧ Own W loz hiz (rows5 xz n) ∧ Below w11.heap.size w11 W ∧ hiz ≤ W.heap.size ∧ mz < W.heap.size := ⟨_, rfl, bz, fz, hb12, j3z, j4z⟩
          subst ew12
          have sw12 := hb12.size
          have ba := ba.below hb12
          have bv := bv.below hb12
          have bx := bx.below hb12
          have bu := bu.below hb12
          have fv := fv.below hb12
          have fu := fu.below hb12
          have hp := hp.below hb12
          have BB := bel_then BB hb12
          clear q0 q1 q2 q3 q4 hl1 hl2 CB e1 hb12
          clear x0 x1 x2 x3 x4 x5 x6 x7
          have E := eq_store (w := w12) hbn fz fv
          obtain ⟨x0, x1, x2, x3, x4, x5, x6, x7⟩ := bz.cells
          obtain ⟨y0, y1, y2, y3, y4, y5, y6, y7⟩ := bv.cells
          go_wp2_with (go_at_call 13; refine (E).mono ?_; rintro r w13 ⟨rfl, hb13⟩; refine Hid.out ?_)
          refine Lib.hid ?_
          have sw13 := hb13.size
          have ba := ba.below hb13
          have bv := bv.below hb13
          have bx := bx.below hb13
          have bu := bu.below hb13
          have bz := bz.below hb13
          have fv := fv.below hb13
          have fu := fu.below hb13
          have fz := fz.below hb13
          have hp := hp.below hb13
          have BB := bel_then BB hb13
          clear E hb13
          clear x0 x1 x2 x3 x4 x5 x6 x7
          clear y0 y1 y2 y3 y4 y5 y6 y7
          obtain ⟨x0, x1, x2, x3, x4, x5, x6, x7⟩ := bu.cells
          have H := hH fu
          go_wp2_with (go_at_call 15; refine H.mono ?_; rintro r w14 ⟨rfl, hb14⟩)
          go_ret
          exact ⟨rfl, bel_then BB hb14⟩
end Go.Proofs.Ytmnamclndpfjnaa
