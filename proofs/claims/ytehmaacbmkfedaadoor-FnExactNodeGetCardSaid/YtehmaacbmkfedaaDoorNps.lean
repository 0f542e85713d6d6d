/-
  NodePut, the model's.
-/
import Derived.Test.YtehmaacbmkfedaaDoorNok
import Derived.Test.YtehmaacbmkfedaaDoorNq
namespace Go.Proofs.YtehmaacbmkfedaaDoor
open Go.RowKit
set_option linter.unusedVariables false

theorem strs7_new (W : World) (t0 t1 t2 t3 t4 t5 t6 : ByteArray) : StrsAt (W.alloc (.cells #[.string t0, .string t1, .string t2, .string t3, .string t4, .string t5, .string t6] 9)) (some ⟨W.heap.size, 0, none⟩) [t0, t1, t2, t3, t4, t5, t6] := by
  intro _
  refine ⟨W.heap.size, 0, rfl, by simp, fun j hj => ?_⟩
  rw [Nat.zero_add, World.cell?_alloc_mark]
  match j, hj with
  | 0, _ => rfl
  | 1, _ => rfl
  | 2, _ => rfl
  | 3, _ => rfl
  | 4, _ => rfl
  | 5, _ => rfl
  | 6, _ => rfl
theorem s_dec {x : Int} (h : 0 ≤ x ∧ x ≤ 2048) (W : World) : Calls Tryd.prog 22 #[.int .i64 x] W fun r w' => r = .returned (.string (strOf (numText x))) ∧ Below W.heap.size W w' :=
  (dec_any 2048 x W h.1 (by omega) (by omega)).mono fun r w' ⟨h1, h2⟩ => ⟨by rw [h1, num_is x h.1 (by omega)], h2⟩

set_option maxRecDepth 100000 in
set_option maxHeartbeats 8000000 in
theorem s_nodeput (kind links size a b c d e dep many : Int) (w : World) : Calls Tryd.prog 8 #[.agg #[.int .i64 kind, .int .i64 links, .int .i64 size, .int .i64 a, .int .i64 b, .int .i64 c, .int .i64 d, .int .i64 e, .int .i64 dep, .int .i64 many]] w fun r w' => r = .returned (.string (nodeT ⟨kind, links, size, ⟨a, b, c, d, e⟩, dep, many⟩)) ∧ Below w.heap.size w w' := by
  have hO := fun w => s_nodeok kind links size a b c d e dep many w
  have n0 := KN.new w kind links size a b c d e dep many 33
  cases hk : nodeOk ⟨kind, links, size, ⟨a, b, c, d, e⟩, dep, many⟩ with
  | false =>
    rw [nodeT_no hk]
    rw [hk] at hO
    clear hk
    go_enter Tryd.func8, Tryd.ntmps8
    go_upto_region 1 with fail
    generalize hW0 : w.alloc (.cells #[.int .i64 kind, .int .i64 links, .int .i64 size, .int .i64 a, .int .i64 b, .int .i64 c, .int .i64 d, .int .i64 e, .int .i64 dep, .int .i64 many] 33) = W0 at n0
    clear hW0
    obtain ⟨y0, y1, y2, y3, y4, y5, y6, y7, y8, y9, yg, yb⟩ := id n0
    go_wp2_with (go_at_call 20; refine (hO _).mono ?_; rintro r w2 ⟨rfl, hb2⟩)
    go_ret
    exact ⟨rfl, (n0.next hb2).bel⟩
  | true =>
    obtain ⟨p0, p1, p2, p3, p4, p5⟩ := ok_parts hk
    simp only at p0 p1 p2 p3 p4 p5
    rw [nodeT_yes hk]
    rw [hk] at hO
    have hT0 := fun W => s_dec (x := kind) (by omega) W
    have hT1 := fun W => s_dec (x := links) (by omega) W
    have hT2 := fun W => s_dec (x := size) (by omega) W
    have hT3 := fun W => spec_put a b c d e W
    have hT4 := fun W => s_dec (x := dep) (by omega) W
    have hT5 := fun W => s_dec (x := many) (by omega) W
    have hfp := fput_flds ⟨kind, links, size, ⟨a, b, c, d, e⟩, dep, many⟩
    have hfs := flds_size ⟨kind, links, size, ⟨a, b, c, d, e⟩, dep, many⟩
    unfold flds endB at hfp hfs
    simp only at hfp hfs
    have hfl : recL (flds ⟨kind, links, size, ⟨a, b, c, d, e⟩, dep, many⟩) = recL [strOf (numText kind), strOf (numText links), strOf (numText size), strOf (putT a b c d e), strOf (numText dep), strOf (numText many), ⟨#[101, 110, 100]⟩] := rfl
    rw [hfl]
    clear hfl hk p0 p1 p2 p3 p4 p5
    generalize strOf (numText kind) = t0 at hT0 hfp hfs ⊢
    generalize strOf (numText links) = t1 at hT1 hfp hfs ⊢
    generalize strOf (numText size) = t2 at hT2 hfp hfs ⊢
    generalize strOf (putT a b c d e) = t3 at hT3 hfp hfs ⊢
    generalize strOf (numText dep) = t4 at hT4 hfp hfs ⊢
    generalize strOf (numText many) = t5 at hT5 hfp hfs ⊢
    have hF : ∀ W : World, Calls Tryd.prog 21 #[.slice (some ⟨W.heap.size, 0, none⟩) 7 7] (W.alloc (.cells #[.string t0, .string t1, .string t2, .string t3, .string t4, .string t5, .string ⟨#[101, 110, 100]⟩] 9)) fun r w' => r = .returned (.tuple #[.string (strOf (recL [t0, t1, t2, t3, t4, t5, ⟨#[101, 110, 100]⟩])), .bool true]) ∧ Below (W.alloc (.cells #[.string t0, .string t1, .string t2, .string t3, .string t4, .string t5, .string ⟨#[101, 110, 100]⟩] 9)).heap.size (W.alloc (.cells #[.string t0, .string t1, .string t2, .string t3, .string t4, .string t5, .string ⟨#[101, 110, 100]⟩] 9)) w' := fun W => (spec_fput (some ⟨W.heap.size, 0, none⟩) 7 [t0, t1, t2, t3, t4, t5, ⟨#[101, 110, 100]⟩] (W.alloc (.cells #[.string t0, .string t1, .string t2, .string t3, .string t4, .string t5, .string ⟨#[101, 110, 100]⟩] 9)) (by simp) (fun s hs => by have := hfs s hs; omega) (strs7_new W t0 t1 t2 t3 t4 t5 ⟨#[101, 110, 100]⟩)).mono fun r w' ⟨h1, h2⟩ => ⟨by rw [h1, hfp], h2⟩
    clear hfp hfs
    generalize strOf (recL [t0, t1, t2, t3, t4, t5, ⟨#[101, 110, 100]⟩]) = TT at hF ⊢
    go_enter Tryd.func8, Tryd.ntmps8
    go_upto_region 1 with fail
    generalize hW0 : w.alloc (.cells #[.int .i64 kind, .int .i64 links, .int .i64 size, .int .i64 a, .int .i64 b, .int .i64 c, .int .i64 d, .int .i64 e, .int .i64 dep, .int .i64 many] 33) = W0 at n0
    clear hW0
    obtain ⟨y0, y1, y2, y3, y4, y5, y6, y7, y8, y9, yg, yb⟩ := id n0
    go_upto_region 3 with (go_at_call 20; refine (hO _).mono ?_; rintro r w0 ⟨rfl, hb0⟩)
    have k0 := (n0.next hb0).drew
    clear y0 y1 y2 y3 y4 y5 y6 y7 y8 y9 yg yb n0 hb0
    refine wp_region_held_drew (S := (fun W => W.cell? ⟨w.heap.size, 0, none⟩ = some (.int .i64 kind) ∧ W.cell? ⟨w.heap.size, 1, none⟩ = some (.int .i64 links) ∧ W.cell? ⟨w.heap.size, 2, none⟩ = some (.int .i64 size) ∧ W.cell? ⟨w.heap.size, 3, none⟩ = some (.int .i64 a) ∧ W.cell? ⟨w.heap.size, 4, none⟩ = some (.int .i64 b) ∧ W.cell? ⟨w.heap.size, 5, none⟩ = some (.int .i64 c) ∧ W.cell? ⟨w.heap.size, 6, none⟩ = some (.int .i64 d) ∧ W.cell? ⟨w.heap.size, 7, none⟩ = some (.int .i64 e) ∧ W.cell? ⟨w.heap.size, 8, none⟩ = some (.int .i64 dep) ∧ W.cell? ⟨w.heap.size, 9, none⟩ = some (.int .i64 many) ∧ w.heap.size < W.heap.size ∧ Below w.heap.size w W)) (by kernel_rfl) (show KN w w.heap.size kind links size a b c d e dep many _ from k0) (fun hHeld => ?_)
    refine takeH (i := 0) (d := some 9) (v := ?v0) rfl rfl (by kernel_rfl) (by kernel_rfl) (by kernel_rfl) (fun _ _ _ h => h) (by rfl) ?hy0 (by assumption) ?rest0
    case hy0 => (intro W hSw; (try dsimp only at hSw); go_simp <;> with_reducible rfl)
    try simp only [Act.put, List.setIfInBounds_toArray, List.set_cons_zero, List.set_cons_succ]
    refine takeH (i := 1) (d := some 10) (v := ?v1) rfl rfl (by kernel_rfl) (by kernel_rfl) (by kernel_rfl) (fun _ _ _ h => h) (by rfl) ?hy1 (by assumption) ?rest1
    case hy1 => (intro W hSw; (try dsimp only at hSw); go_simp <;> with_reducible rfl)
    try simp only [Act.put, List.setIfInBounds_toArray, List.set_cons_zero, List.set_cons_succ]
    refine takeH (i := 3) (d := some 12) (v := ?v3) rfl rfl (by kernel_rfl) (by kernel_rfl) (by kernel_rfl) (fun _ _ _ h => h) (by rfl) ?hy3 (by assumption) ?rest3
    case hy3 => (intro W hSw; (try dsimp only at hSw); go_simp <;> with_reducible rfl)
    try simp only [Act.put, List.setIfInBounds_toArray, List.set_cons_zero, List.set_cons_succ]
    refine takeH (i := 4) (d := some 13) (v := ?v4) rfl rfl (by kernel_rfl) (by kernel_rfl) (by kernel_rfl) (fun _ _ _ h => h) (by rfl) ?hy4 (by assumption) ?rest4
    case hy4 => (intro W hSw; (try dsimp only at hSw); go_simp <;> with_reducible rfl)
    try simp only [Act.put, List.setIfInBounds_toArray, List.set_cons_zero, List.set_cons_succ]
    refine takeH (i := 6) (d := some 15) (v := ?v6) rfl rfl (by kernel_rfl) (by kernel_rfl) (by kernel_rfl) (fun _ _ _ h => h) (by rfl) ?hy6 (by assumption) ?rest6
    case hy6 => (intro W hSw; (try dsimp only at hSw); go_simp <;> with_reducible rfl)
    try simp only [Act.put, List.setIfInBounds_toArray, List.set_cons_zero, List.set_cons_succ]
    refine takeH (i := 7) (d := some 16) (v := ?v7) rfl rfl (by kernel_rfl) (by kernel_rfl) (by kernel_rfl) (fun _ _ _ h => h) (by rfl) ?hy7 (by assumption) ?rest7
    case hy7 => (intro W hSw; (try dsimp only at hSw); go_simp <;> with_reducible rfl)
    try simp only [Act.put, List.setIfInBounds_toArray, List.set_cons_zero, List.set_cons_succ]
    refine takeH (i := 9) (d := some 18) (v := ?v9) rfl rfl (by kernel_rfl) (by kernel_rfl) (by kernel_rfl) (fun _ _ _ h => h) (by rfl) ?hy9 (by assumption) ?rest9
    case hy9 => (intro W hSw; (try dsimp only at hSw); go_simp <;> with_reducible rfl)
    try simp only [Act.put, List.setIfInBounds_toArray, List.set_cons_zero, List.set_cons_succ]
    refine takeH (i := 10) (d := some 19) (v := ?v10) rfl rfl (by kernel_rfl) (by kernel_rfl) (by kernel_rfl) (fun _ _ _ h => h) (by rfl) ?hy10 (by assumption) ?rest10
    case hy10 => (intro W hSw; (try dsimp only at hSw); go_simp <;> with_reducible rfl)
    try simp only [Act.put, List.setIfInBounds_toArray, List.set_cons_zero, List.set_cons_succ]
    refine takeH (i := 11) (d := some 20) (v := ?v11) rfl rfl (by kernel_rfl) (by kernel_rfl) (by kernel_rfl) (fun _ _ _ h => h) (by rfl) ?hy11 (by assumption) ?rest11
    case hy11 => (intro W hSw; (try dsimp only at hSw); go_simp <;> with_reducible rfl)
    try simp only [Act.put, List.setIfInBounds_toArray, List.set_cons_zero, List.set_cons_succ]
    refine takeH (i := 13) (d := some 22) (v := ?v13) rfl rfl (by kernel_rfl) (by kernel_rfl) (by kernel_rfl) (fun _ _ _ h => h) (by rfl) ?hy13 (by assumption) ?rest13
    case hy13 => (intro W hSw; (try dsimp only at hSw); go_simp <;> with_reducible rfl)
    try simp only [Act.put, List.setIfInBounds_toArray, List.set_cons_zero, List.set_cons_succ]
    refine takeH (i := 14) (d := some 23) (v := ?v14) rfl rfl (by kernel_rfl) (by kernel_rfl) (by kernel_rfl) (fun _ _ _ h => h) (by rfl) ?hy14 (by assumption) ?rest14
    case hy14 => (intro W hSw; (try dsimp only at hSw); go_simp <;> with_reducible rfl)
    try simp only [Act.put, List.setIfInBounds_toArray, List.set_cons_zero, List.set_cons_succ]
    refine takeH (i := 15) (d := some 24) (v := ?v15) rfl rfl (by kernel_rfl) (by kernel_rfl) (by kernel_rfl) (fun _ _ _ h => h) (by rfl) ?hy15 (by assumption) ?rest15
    case hy15 => (intro W hSw; (try dsimp only at hSw); go_simp <;> with_reducible rfl)
    try simp only [Act.put, List.setIfInBounds_toArray, List.set_cons_zero, List.set_cons_succ]
    refine takeH (i := 17) (d := some 26) (v := ?v17) rfl rfl (by kernel_rfl) (by kernel_rfl) (by kernel_rfl) (fun _ _ _ h => h) (by rfl) ?hy17 (by assumption) ?rest17
    case hy17 => (intro W hSw; (try dsimp only at hSw); go_simp <;> with_reducible rfl)
    try simp only [Act.put, List.setIfInBounds_toArray, List.set_cons_zero, List.set_cons_succ]
    refine takeH (i := 18) (d := some 27) (v := ?v18) rfl rfl (by kernel_rfl) (by kernel_rfl) (by kernel_rfl) (fun _ _ _ h => h) (by rfl) ?hy18 (by assumption) ?rest18
    case hy18 => (intro W hSw; (try dsimp only at hSw); go_simp <;> with_reducible rfl)
    try simp only [Act.put, List.setIfInBounds_toArray, List.set_cons_zero, List.set_cons_succ]
    refine takeH (i := 19) (d := some 28) (v := ?v19) rfl rfl (by kernel_rfl) (by kernel_rfl) (by kernel_rfl) (fun _ _ _ h => h) (by rfl) ?hy19 (by assumption) ?rest19
    case hy19 => (intro W hSw; (try dsimp only at hSw); go_simp <;> with_reducible rfl)
    try simp only [Act.put, List.setIfInBounds_toArray, List.set_cons_zero, List.set_cons_succ]
    refine wpAnyH_ready (rs := [2]) (by kernel_rfl) (by simp) ?_
    refine AllReadyH.cons rfl (fun K hK => ?_) AllReadyH.nil
    go_simp
    go_at_call 22
    refine (hT0 _).mono ?_
    rintro r w1 ⟨rfl, hb1⟩
    have k1 := k0.next hb1
    refine hK.out _ _ (show KN w w.heap.size kind links size a b c d e dep many _ from k1) (fun hHeld => ?_)
    clear hK K
    try simp only [Act.put, List.setIfInBounds_toArray, List.set_cons_zero, List.set_cons_succ]
    refine wpAnyH_ready (rs := [5]) (by kernel_rfl) (by simp) ?_
    refine AllReadyH.cons rfl (fun K hK => ?_) AllReadyH.nil
    go_simp
    go_at_call 22
    refine (hT1 _).mono ?_
    rintro r w2 ⟨rfl, hb2⟩
    have k2 := k1.next hb2
    refine hK.out _ _ (show KN w w.heap.size kind links size a b c d e dep many _ from k2) (fun hHeld => ?_)
    clear hK K
    try simp only [Act.put, List.setIfInBounds_toArray, List.set_cons_zero, List.set_cons_succ]
    refine wpAnyH_ready (rs := [8]) (by kernel_rfl) (by simp) ?_
    refine AllReadyH.cons rfl (fun K hK => ?_) AllReadyH.nil
    go_simp
    go_at_call 22
    refine (hT2 _).mono ?_
    rintro r w3 ⟨rfl, hb3⟩
    have k3 := k2.next hb3
    refine hK.out _ _ (show KN w w.heap.size kind links size a b c d e dep many _ from k3) (fun hHeld => ?_)
    clear hK K
    try simp only [Act.put, List.setIfInBounds_toArray, List.set_cons_zero, List.set_cons_succ]
    refine wpAnyH_ready (rs := [12]) (by kernel_rfl) (by simp) ?_
    refine AllReadyH.cons rfl (fun K hK => ?_) AllReadyH.nil
    go_simp
    go_at_call 23
    refine (hT3 _).mono ?_
    rintro r w4 ⟨rfl, hb4⟩
    have k4 := k3.next hb4
    refine hK.out _ _ (show KN w w.heap.size kind links size a b c d e dep many _ from k4) (fun hHeld => ?_)
    clear hK K
    try simp only [Act.put, List.setIfInBounds_toArray, List.set_cons_zero, List.set_cons_succ]
    refine wpAnyH_ready (rs := [16]) (by kernel_rfl) (by simp) ?_
    refine AllReadyH.cons rfl (fun K hK => ?_) AllReadyH.nil
    go_simp
    go_at_call 22
    refine (hT4 _).mono ?_
    rintro r w5 ⟨rfl, hb5⟩
    have k5 := k4.next hb5
    refine hK.out _ _ (show KN w w.heap.size kind links size a b c d e dep many _ from k5) (fun hHeld => ?_)
    clear hK K
    try simp only [Act.put, List.setIfInBounds_toArray, List.set_cons_zero, List.set_cons_succ]
    refine wpAnyH_ready (rs := [20]) (by kernel_rfl) (by simp) ?_
    refine AllReadyH.cons rfl (fun K hK => ?_) AllReadyH.nil
    go_simp
    go_at_call 22
    refine (hT5 _).mono ?_
    rintro r w6 ⟨rfl, hb6⟩
    have k6 := k5.next hb6
    refine hK.out _ _ (show KN w w.heap.size kind links size a b c d e dep many _ from k6) (fun hHeld => ?_)
    clear hK K
    try simp only [Act.put, List.setIfInBounds_toArray, List.set_cons_zero, List.set_cons_succ]
    refine wpAnyH_ready (rs := [21]) (by kernel_rfl) (by simp) ?_
    refine AllReadyH.cons rfl (fun K hK => ?_) AllReadyH.nil
    go_simp
    refine hK.out _ _ (show KN w w.heap.size kind links size a b c d e dep many _ from (k6.next (bel_fresh _))) (fun hHeld0 => ?_)
    clear hK K
    try simp only [Act.put, List.setIfInBounds_toArray, List.set_cons_zero, List.set_cons_succ]
    refine wpAnyH_ready (rs := [22]) (by kernel_rfl) (by simp) ?_
    refine AllReadyH.cons rfl (fun K hK => ?_) AllReadyH.nil
    go_simp
    have k7 : KN w w.heap.size kind links size a b c d e dep many _ := hHeld0
    go_at_call 21
    refine (hF _).mono ?_
    rintro r w8 ⟨rfl, hb8⟩
    have k8 := k7.next hb8
    refine hK.out _ _ (show KN w w.heap.size kind links size a b c d e dep many _ from k8) (fun hHeld => ?_)
    clear hK K
    try simp only [Act.put, List.setIfInBounds_toArray, List.set_cons_zero, List.set_cons_succ]
    refine takeH (i := 23) (d := some 8) (v := ?v23) rfl rfl (by kernel_rfl) (by kernel_rfl) (by kernel_rfl) (fun _ _ _ h => h) (by rfl) ?hy23 (by assumption) ?rest23
    case hy23 => (intro W hSw; (try dsimp only at hSw); go_simp <;> with_reducible rfl)
    try simp only [Act.put, List.setIfInBounds_toArray, List.set_cons_zero, List.set_cons_succ]
    refine takeH (i := 24) (d := some 32) (v := ?v24) rfl rfl (by kernel_rfl) (by kernel_rfl) (by kernel_rfl) (fun _ _ _ h => h) (by rfl) ?hy24 (by assumption) ?rest24
    case hy24 => (intro W hSw; (try dsimp only at hSw); go_simp <;> with_reducible rfl)
    try simp only [Act.put, List.setIfInBounds_toArray, List.set_cons_zero, List.set_cons_succ]
    refine takeH (i := 25) (d := some 33) (v := ?v25) rfl rfl (by kernel_rfl) (by kernel_rfl) (by kernel_rfl) (fun _ _ _ h => h) (by rfl) ?hy25 (by assumption) ?rest25
    case hy25 => (intro W hSw; (try dsimp only at hSw); go_simp <;> with_reducible rfl)
    try simp only [Act.put, List.setIfInBounds_toArray, List.set_cons_zero, List.set_cons_succ]
    refine takeH (i := 26) (d := some 3) (v := ?v26) rfl rfl (by kernel_rfl) (by kernel_rfl) (by kernel_rfl) (fun _ _ _ h => h) (by rfl) ?hy26 (by assumption) ?rest26
    case hy26 => (intro W hSw; (try dsimp only at hSw); go_simp <;> with_reducible rfl)
    try simp only [Act.put, List.setIfInBounds_toArray, List.set_cons_zero, List.set_cons_succ]
    refine takeH (i := 27) (d := some 4) (v := ?v27) rfl rfl (by kernel_rfl) (by kernel_rfl) (by kernel_rfl) (fun _ _ _ h => h) (by rfl) ?hy27 (by assumption) ?rest27
    case hy27 => (intro W hSw; (try dsimp only at hSw); go_simp <;> with_reducible rfl)
    try simp only [Act.put, List.setIfInBounds_toArray, List.set_cons_zero, List.set_cons_succ]
    refine wpAnyH_done (by kernel_rfl) ?_ _
    go_wp2_with fail
    go_ret
    exact ⟨rfl, k8.bel⟩
end Go.Proofs.YtehmaacbmkfedaaDoor
