/-
  NodePut, the program's.
-/
import Derived.Test.YtehmaacbmkfedaaDoorNps
import Derived.Test.YtehmaacbmkfedaaDoorPutI
namespace Go.Proofs.YtehmaacbmkfedaaDoor
open Go.RowKit
set_option linter.unusedVariables false

/-- The cells of a node's box, and of its tree's, kept. -/
def KT (w : World) (g : Nat) (kind links size a b c d e dep many : Int) (g9 : Nat) (W : World) : Prop :=
  W.cell? ⟨g, 0, none⟩ = some (.int .i64 kind) ∧ W.cell? ⟨g, 1, none⟩ = some (.int .i64 links) ∧ W.cell? ⟨g, 2, none⟩ = some (.int .i64 size) ∧ W.cell? ⟨g, 3, none⟩ = some (.int .i64 a) ∧ W.cell? ⟨g, 4, none⟩ = some (.int .i64 b) ∧ W.cell? ⟨g, 5, none⟩ = some (.int .i64 c) ∧ W.cell? ⟨g, 6, none⟩ = some (.int .i64 d) ∧ W.cell? ⟨g, 7, none⟩ = some (.int .i64 e) ∧ W.cell? ⟨g, 8, none⟩ = some (.int .i64 dep) ∧ W.cell? ⟨g, 9, none⟩ = some (.int .i64 many) ∧ g < W.heap.size ∧ Below w.heap.size w W ∧ W.cell? ⟨g9, 0, none⟩ = some (.int .i64 a) ∧ W.cell? ⟨g9, 1, none⟩ = some (.int .i64 b) ∧ W.cell? ⟨g9, 2, none⟩ = some (.int .i64 c) ∧ W.cell? ⟨g9, 3, none⟩ = some (.int .i64 d) ∧ W.cell? ⟨g9, 4, none⟩ = some (.int .i64 e) ∧ W.cell? ⟨g9, 5, none⟩ = some (.int .i64 dep) ∧ W.cell? ⟨g9, 6, none⟩ = some (.int .i64 many) ∧ g9 < W.heap.size
theorem KT.of {w W : World} {g : Nat} {kind links size a b c d e dep many : Int} (k : KN w g kind links size a b c d e dep many W) (t : TypeId) : KT w g kind links size a b c d e dep many W.heap.size (W.alloc (.cells #[.int .i64 a, .int .i64 b, .int .i64 c, .int .i64 d, .int .i64 e, .int .i64 dep, .int .i64 many] t)) := by
  have k2 := k.next (bel_new (Below.refl _ _) (.cells #[.int .i64 a, .int .i64 b, .int .i64 c, .int .i64 d, .int .i64 e, .int .i64 dep, .int .i64 many] t))
  obtain ⟨y0, y1, y2, y3, y4, y5, y6, y7, y8, y9, hg, hw⟩ := k2
  refine ⟨y0, y1, y2, y3, y4, y5, y6, y7, y8, y9, hg, hw, ?_, ?_, ?_, ?_, ?_, ?_, ?_, by simp⟩
  all_goals (rw [World.cell?_alloc_mark]; rfl)
theorem KT.next {w W W' : World} {g g9 : Nat} {kind links size a b c d e dep many : Int} (k : KT w g kind links size a b c d e dep many g9 W) (hb : Below W.heap.size W W') : KT w g kind links size a b c d e dep many g9 W' := by
  obtain ⟨y0, y1, y2, y3, y4, y5, y6, y7, y8, y9, hg, hw, z0, z1, z2, z3, z4, z5, z6, h9⟩ := k
  exact ⟨(hb.cell hg).trans y0, (hb.cell hg).trans y1, (hb.cell hg).trans y2, (hb.cell hg).trans y3, (hb.cell hg).trans y4, (hb.cell hg).trans y5, (hb.cell hg).trans y6, (hb.cell hg).trans y7, (hb.cell hg).trans y8, (hb.cell hg).trans y9, Nat.lt_of_lt_of_le hg hb.size, hw.trans (hb.mono hw.size), (hb.cell h9).trans z0, (hb.cell h9).trans z1, (hb.cell h9).trans z2, (hb.cell h9).trans z3, (hb.cell h9).trans z4, (hb.cell h9).trans z5, (hb.cell h9).trans z6, Nat.lt_of_lt_of_le h9 hb.size⟩
theorem KT.drew {w W : World} {g g9 : Nat} {kind links size a b c d e dep many : Int} (k : KT w g kind links size a b c d e dep many g9 W) : KT w g kind links size a b c d e dep many g9 W.drew := by
  obtain ⟨y0, y1, y2, y3, y4, y5, y6, y7, y8, y9, hg, hw, z0, z1, z2, z3, z4, z5, z6, h9⟩ := k
  exact ⟨y0, y1, y2, y3, y4, y5, y6, y7, y8, y9, hg, hw.drew, z0, z1, z2, z3, z4, z5, z6, h9⟩
theorem KT.bel {w W : World} {g g9 : Nat} {kind links size a b c d e dep many : Int} (k : KT w g kind links size a b c d e dep many g9 W) : Below w.heap.size w W := k.2.2.2.2.2.2.2.2.2.2.2.1

theorem m_ptext (a b c d e : Int) (w : World) (h : isOk a b c d e = true) (hT : Tab w) :
    Calls Tryd.prog 51 #[.agg #[.int .i64 a, .int .i64 b, .int .i64 c, .int .i64 d, .int .i64 e]] w fun r w' => r = .returned (.string (strOf (putT a b c d e))) ∧ Below w.heap.size w w' := by
  cases hh : isHole a b c d e with
  | true =>
    have hv : putT a b c d e = [45] := by unfold putT; rw [if_pos h, if_pos hh]
    rw [hv]
    have hM := fun w => m_hole a b c d e w
    rw [hh] at hM
    clear hv hh h hT
    go_enter Tryd.func51, Tryd.ntmps51
    go_wp2_with (go_at_call 73; refine (hM _).mono ?_; rintro r w2 ⟨rfl, rfl⟩)
    go_ret
    exact ⟨rfl, by repeat' (first | exact Below.refl _ _ | refine bel_new ?_ _)⟩
  | false =>
    have hi : inAll a b c d e := by
      rw [isOk_inAll, hh, Bool.false_or] at h
      simpa using h
    have hv : putT a b c d e = joinB (numText a) (numText b) (numText c) (numText d) (numText e) := by unfold putT; rw [if_pos h, if_neg (by rw [hh]; decide)]
    rw [hv]
    exact m_text a b c d e w hi hh hT

set_option maxRecDepth 100000 in
set_option maxHeartbeats 8000000 in
theorem i_nodetext (kind links size a b c d e dep many : Int) (w : World) (hk : nodeOk ⟨kind, links, size, ⟨a, b, c, d, e⟩, dep, many⟩ = true) (hT : Tab w) : Calls Tryd.prog 26 #[.agg #[.int .i64 kind, .int .i64 links, .int .i64 size, .int .i64 a, .int .i64 b, .int .i64 c, .int .i64 d, .int .i64 e, .int .i64 dep, .int .i64 many]] w fun r w' => r = .returned (.string (strOf (recL (flds ⟨kind, links, size, ⟨a, b, c, d, e⟩, dep, many⟩)))) ∧ Below w.heap.size w w' := by
  have n0 := KN.new w kind links size a b c d e dep many 33
  obtain ⟨p0, p1, p2, p3, p4, p5⟩ := ok_parts hk
  simp only at p0 p1 p2 p3 p4 p5
  have hN : ∀ (x : Int) (W : World), Below w.heap.size w W → Calls Tryd.prog 50 #[.int .i64 x] W fun r w' => r = .returned (.string (strOf (numText x))) ∧ Below W.heap.size W w' := fun x W hb => impl_num x W (hT.on hb).here
  have hT0 := hN kind
  have hT1 := hN links
  have hT2 := hN size
  have hT3 := fun W (hb : Below w.heap.size w W) => m_ptext a b c d e W p3 (hT.at hb)
  have hT4 := hN dep
  have hT5 := hN many
  have hfp := fput_flds ⟨kind, links, size, ⟨a, b, c, d, e⟩, dep, many⟩
  have hfs := flds_size ⟨kind, links, size, ⟨a, b, c, d, e⟩, dep, many⟩
  unfold flds endB at hfp hfs
  simp only at hfp hfs
  have hfl : recL (flds ⟨kind, links, size, ⟨a, b, c, d, e⟩, dep, many⟩) = recL [strOf (numText kind), strOf (numText links), strOf (numText size), strOf (putT a b c d e), strOf (numText dep), strOf (numText many), ⟨#[101, 110, 100]⟩] := rfl
  rw [hfl]
  clear hfl hk p0 p1 p2 p3 p4 p5 hN
  generalize strOf (numText kind) = t0 at hT0 hfp hfs ⊢
  generalize strOf (numText links) = t1 at hT1 hfp hfs ⊢
  generalize strOf (numText size) = t2 at hT2 hfp hfs ⊢
  generalize strOf (putT a b c d e) = t3 at hT3 hfp hfs ⊢
  generalize strOf (numText dep) = t4 at hT4 hfp hfs ⊢
  generalize strOf (numText many) = t5 at hT5 hfp hfs ⊢
  have hF : ∀ W : World, Below w.heap.size w W → Calls Tryd.prog 49 #[.slice (some ⟨W.heap.size, 0, none⟩) 7 7] (W.alloc (.cells #[.string t0, .string t1, .string t2, .string t3, .string t4, .string t5, .string ⟨#[101, 110, 100]⟩] 9)) fun r w' => r = .returned (.tuple #[.string (strOf (recL [t0, t1, t2, t3, t4, t5, ⟨#[101, 110, 100]⟩])), .bool true]) ∧ Below (W.alloc (.cells #[.string t0, .string t1, .string t2, .string t3, .string t4, .string t5, .string ⟨#[101, 110, 100]⟩] 9)).heap.size (W.alloc (.cells #[.string t0, .string t1, .string t2, .string t3, .string t4, .string t5, .string ⟨#[101, 110, 100]⟩] 9)) w' := fun W hb => (impl_fput (some ⟨W.heap.size, 0, none⟩) 7 [t0, t1, t2, t3, t4, t5, ⟨#[101, 110, 100]⟩] (W.alloc (.cells #[.string t0, .string t1, .string t2, .string t3, .string t4, .string t5, .string ⟨#[101, 110, 100]⟩] 9)) (by simp) (fun s hs => by have := hfs s hs; omega) (strs7_new W t0 t1 t2 t3 t4 t5 ⟨#[101, 110, 100]⟩) (hT.at (hb.alloc hb.size _))).mono fun r w' ⟨h1, h2⟩ => ⟨by rw [h1, hfp], h2⟩
  clear hfp hfs hT
  generalize strOf (recL [t0, t1, t2, t3, t4, t5, ⟨#[101, 110, 100]⟩]) = TT at hF ⊢
  go_enter Tryd.func26, Tryd.ntmps26
  go_upto_region 1 with fail
  generalize hW0 : w.alloc (.cells #[.int .i64 kind, .int .i64 links, .int .i64 size, .int .i64 a, .int .i64 b, .int .i64 c, .int .i64 d, .int .i64 e, .int .i64 dep, .int .i64 many] 33) = W0 at n0
  clear hW0
  obtain ⟨y0, y1, y2, y3, y4, y5, y6, y7, y8, y9, yg, yb⟩ := id n0
  go_upto_region 2 with fail
  have k1 := KT.of n0 31
  generalize hG : W0.heap.size = g9 at k1
  generalize hW1 : W0.alloc (.cells #[.int .i64 a, .int .i64 b, .int .i64 c, .int .i64 d, .int .i64 e, .int .i64 dep, .int .i64 many] 31) = W1 at k1
  clear hW1 n0 y0 y1 y2 y3 y4 y5 y6 y7 y8 y9 yg yb hG
  have k0 := k1.drew
  clear k1
  refine wp_region_held_drew (S := (fun W => W.cell? ⟨w.heap.size, 0, none⟩ = some (.int .i64 kind) ∧ W.cell? ⟨w.heap.size, 1, none⟩ = some (.int .i64 links) ∧ W.cell? ⟨w.heap.size, 2, none⟩ = some (.int .i64 size) ∧ W.cell? ⟨w.heap.size, 3, none⟩ = some (.int .i64 a) ∧ W.cell? ⟨w.heap.size, 4, none⟩ = some (.int .i64 b) ∧ W.cell? ⟨w.heap.size, 5, none⟩ = some (.int .i64 c) ∧ W.cell? ⟨w.heap.size, 6, none⟩ = some (.int .i64 d) ∧ W.cell? ⟨w.heap.size, 7, none⟩ = some (.int .i64 e) ∧ W.cell? ⟨w.heap.size, 8, none⟩ = some (.int .i64 dep) ∧ W.cell? ⟨w.heap.size, 9, none⟩ = some (.int .i64 many) ∧ w.heap.size < W.heap.size ∧ Below w.heap.size w W ∧ W.cell? ⟨g9, 0, none⟩ = some (.int .i64 a) ∧ W.cell? ⟨g9, 1, none⟩ = some (.int .i64 b) ∧ W.cell? ⟨g9, 2, none⟩ = some (.int .i64 c) ∧ W.cell? ⟨g9, 3, none⟩ = some (.int .i64 d) ∧ W.cell? ⟨g9, 4, none⟩ = some (.int .i64 e) ∧ W.cell? ⟨g9, 5, none⟩ = some (.int .i64 dep) ∧ W.cell? ⟨g9, 6, none⟩ = some (.int .i64 many) ∧ g9 < W.heap.size)) (by kernel_rfl) (show KT w w.heap.size kind links size a b c d e dep many g9 _ from k0) (fun hHeld => ?_)
  refine takeH (i := 0) (d := some 9) (v := ?v0) rfl rfl (by kernel_rfl) (by kernel_rfl) (by kernel_rfl) (fun _ _ _ h => h) (by rfl) ?hy0 (by assumption) ?rest0
  case hy0 => (intro W hSw; (try dsimp only at hSw); go_simp <;> with_reducible rfl)
  try simp only [Act.put, List.setIfInBounds_toArray, List.set_cons_zero, List.set_cons_succ]
  refine takeH (i := 1) (d := some 10) (v := ?v1) rfl rfl (by kernel_rfl) (by kernel_rfl) (by kernel_rfl) (fun _ _ _ h => h) (by rfl) ?hy1 (by assumption) ?rest1
  case hy1 => (intro W hSw; (try dsimp only at hSw); go_simp <;> with_reducible rfl)
  try simp only [Act.put, List.setIfInBounds_toArray, List.set_cons_zero, List.set_cons_succ]
  refine takeH (i := 3) (d := some 12) (v := ?v3) rfl rfl (by kernel_rfl) (by kernel_rfl) (by kernel_rfl) (fun _ _ _ h => h) (by rfl) ?hy3 (by assumption) ?rest3
  case hy3 => (intro W hSw; (try dsimp only at hSw); go_simp <;> with_reducible rfl)
  try simp only [Act.put, List.setIfInBounds_toArray, List.set_cons_zero, List.set_cons_succ]
  refine takeH (i := 4) (d := some 13) (v := ?v4) rfl rfl (by kernel_rfl) (by kernel_rfl) (by kernel_rfl) (fun _ _ _ h => h) (by rfl) ?hy4 (by assumption) ?rest4
  case hy4 => (intro W hSw; (try dsimp only at hSw); go_simp <;> with_reducible rfl)
  try simp only [Act.put, List.setIfInBounds_toArray, List.set_cons_zero, List.set_cons_succ]
  refine takeH (i := 6) (d := some 15) (v := ?v6) rfl rfl (by kernel_rfl) (by kernel_rfl) (by kernel_rfl) (fun _ _ _ h => h) (by rfl) ?hy6 (by assumption) ?rest6
  case hy6 => (intro W hSw; (try dsimp only at hSw); go_simp <;> with_reducible rfl)
  try simp only [Act.put, List.setIfInBounds_toArray, List.set_cons_zero, List.set_cons_succ]
  refine takeH (i := 7) (d := some 16) (v := ?v7) rfl rfl (by kernel_rfl) (by kernel_rfl) (by kernel_rfl) (fun _ _ _ h => h) (by rfl) ?hy7 (by assumption) ?rest7
  case hy7 => (intro W hSw; (try dsimp only at hSw); go_simp <;> with_reducible rfl)
  try simp only [Act.put, List.setIfInBounds_toArray, List.set_cons_zero, List.set_cons_succ]
  refine takeH (i := 9) (d := some 18) (v := ?v9) rfl rfl (by kernel_rfl) (by kernel_rfl) (by kernel_rfl) (fun _ _ _ h => h) (by rfl) ?hy9 (by assumption) ?rest9
  case hy9 => (intro W hSw; (try dsimp only at hSw); go_simp <;> with_reducible rfl)
  try simp only [Act.put, List.setIfInBounds_toArray, List.set_cons_zero, List.set_cons_succ]
  refine takeH (i := 10) (d := some 19) (v := ?v10) rfl rfl (by kernel_rfl) (by kernel_rfl) (by kernel_rfl) (fun _ _ _ h => h) (by rfl) ?hy10 (by assumption) ?rest10
  case hy10 => (intro W hSw; (try dsimp only at hSw); go_simp <;> with_reducible rfl)
  try simp only [Act.put, List.setIfInBounds_toArray, List.set_cons_zero, List.set_cons_succ]
  refine takeH (i := 12) (d := some 21) (v := ?v12) rfl rfl (by kernel_rfl) (by kernel_rfl) (by kernel_rfl) (fun _ _ _ h => h) (by rfl) ?hy12 (by assumption) ?rest12
  case hy12 => (intro W hSw; (try dsimp only at hSw); go_simp <;> with_reducible rfl)
  try simp only [Act.put, List.setIfInBounds_toArray, List.set_cons_zero, List.set_cons_succ]
  refine takeH (i := 13) (d := some 22) (v := ?v13) rfl rfl (by kernel_rfl) (by kernel_rfl) (by kernel_rfl) (fun _ _ _ h => h) (by rfl) ?hy13 (by assumption) ?rest13
  case hy13 => (intro W hSw; (try dsimp only at hSw); go_simp <;> with_reducible rfl)
  try simp only [Act.put, List.setIfInBounds_toArray, List.set_cons_zero, List.set_cons_succ]
  refine takeH (i := 15) (d := some 24) (v := ?v15) rfl rfl (by kernel_rfl) (by kernel_rfl) (by kernel_rfl) (fun _ _ _ h => h) (by rfl) ?hy15 (by assumption) ?rest15
  case hy15 => (intro W hSw; (try dsimp only at hSw); go_simp <;> with_reducible rfl)
  try simp only [Act.put, List.setIfInBounds_toArray, List.set_cons_zero, List.set_cons_succ]
  refine takeH (i := 16) (d := some 25) (v := ?v16) rfl rfl (by kernel_rfl) (by kernel_rfl) (by kernel_rfl) (fun _ _ _ h => h) (by rfl) ?hy16 (by assumption) ?rest16
  case hy16 => (intro W hSw; (try dsimp only at hSw); go_simp <;> with_reducible rfl)
  try simp only [Act.put, List.setIfInBounds_toArray, List.set_cons_zero, List.set_cons_succ]
  refine wpAnyH_ready (rs := [2]) (by kernel_rfl) (by simp) ?_
  refine AllReadyH.cons rfl (fun K hK => ?_) AllReadyH.nil
  go_simp
  go_at_call 50
  refine (hT0 _ k0.bel).mono ?_
  rintro r w1 ⟨rfl, hb1⟩
  have k1 := k0.next hb1
  refine hK.out _ _ (show KT w w.heap.size kind links size a b c d e dep many g9 _ from k1) (fun hHeld => ?_)
  clear hK K
  try simp only [Act.put, List.setIfInBounds_toArray, List.set_cons_zero, List.set_cons_succ]
  refine wpAnyH_ready (rs := [5]) (by kernel_rfl) (by simp) ?_
  refine AllReadyH.cons rfl (fun K hK => ?_) AllReadyH.nil
  go_simp
  go_at_call 50
  refine (hT1 _ k1.bel).mono ?_
  rintro r w2 ⟨rfl, hb2⟩
  have k2 := k1.next hb2
  refine hK.out _ _ (show KT w w.heap.size kind links size a b c d e dep many g9 _ from k2) (fun hHeld => ?_)
  clear hK K
  try simp only [Act.put, List.setIfInBounds_toArray, List.set_cons_zero, List.set_cons_succ]
  refine wpAnyH_ready (rs := [8]) (by kernel_rfl) (by simp) ?_
  refine AllReadyH.cons rfl (fun K hK => ?_) AllReadyH.nil
  go_simp
  go_at_call 50
  refine (hT2 _ k2.bel).mono ?_
  rintro r w3 ⟨rfl, hb3⟩
  have k3 := k2.next hb3
  refine hK.out _ _ (show KT w w.heap.size kind links size a b c d e dep many g9 _ from k3) (fun hHeld => ?_)
  clear hK K
  try simp only [Act.put, List.setIfInBounds_toArray, List.set_cons_zero, List.set_cons_succ]
  refine wpAnyH_ready (rs := [11]) (by kernel_rfl) (by simp) ?_
  refine AllReadyH.cons rfl (fun K hK => ?_) AllReadyH.nil
  go_simp
  go_at_call 51
  refine (hT3 _ k3.bel).mono ?_
  rintro r w4 ⟨rfl, hb4⟩
  have k4 := k3.next hb4
  refine hK.out _ _ (show KT w w.heap.size kind links size a b c d e dep many g9 _ from k4) (fun hHeld => ?_)
  clear hK K
  try simp only [Act.put, List.setIfInBounds_toArray, List.set_cons_zero, List.set_cons_succ]
  refine wpAnyH_ready (rs := [14]) (by kernel_rfl) (by simp) ?_
  refine AllReadyH.cons rfl (fun K hK => ?_) AllReadyH.nil
  go_simp
  go_at_call 50
  refine (hT4 _ k4.bel).mono ?_
  rintro r w5 ⟨rfl, hb5⟩
  have k5 := k4.next hb5
  refine hK.out _ _ (show KT w w.heap.size kind links size a b c d e dep many g9 _ from k5) (fun hHeld => ?_)
  clear hK K
  try simp only [Act.put, List.setIfInBounds_toArray, List.set_cons_zero, List.set_cons_succ]
  refine wpAnyH_ready (rs := [17]) (by kernel_rfl) (by simp) ?_
  refine AllReadyH.cons rfl (fun K hK => ?_) AllReadyH.nil
  go_simp
  go_at_call 50
  refine (hT5 _ k5.bel).mono ?_
  rintro r w6 ⟨rfl, hb6⟩
  have k6 := k5.next hb6
  refine hK.out _ _ (show KT w w.heap.size kind links size a b c d e dep many g9 _ from k6) (fun hHeld => ?_)
  clear hK K
  try simp only [Act.put, List.setIfInBounds_toArray, List.set_cons_zero, List.set_cons_succ]
  refine wpAnyH_ready (rs := [18]) (by kernel_rfl) (by simp) ?_
  refine AllReadyH.cons rfl (fun K hK => ?_) AllReadyH.nil
  go_simp
  refine hK.out _ _ (show KT w w.heap.size kind links size a b c d e dep many g9 _ from (k6.next (bel_fresh _))) (fun hHeld0 => ?_)
  clear hK K
  try simp only [Act.put, List.setIfInBounds_toArray, List.set_cons_zero, List.set_cons_succ]
  refine wpAnyH_ready (rs := [19]) (by kernel_rfl) (by simp) ?_
  refine AllReadyH.cons rfl (fun K hK => ?_) AllReadyH.nil
  go_simp
  have k7 : KT w w.heap.size kind links size a b c d e dep many g9 _ := hHeld0
  go_at_call 49
  refine (hF _ k6.bel).mono ?_
  rintro r w8 ⟨rfl, hb8⟩
  have k8 := k7.next hb8
  refine hK.out _ _ (show KT w w.heap.size kind links size a b c d e dep many g9 _ from k8) (fun hHeld => ?_)
  clear hK K
  try simp only [Act.put, List.setIfInBounds_toArray, List.set_cons_zero, List.set_cons_succ]
  refine takeH (i := 20) (d := some 8) (v := ?v20) rfl rfl (by kernel_rfl) (by kernel_rfl) (by kernel_rfl) (fun _ _ _ h => h) (by rfl) ?hy20 (by assumption) ?rest20
  case hy20 => (intro W hSw; (try dsimp only at hSw); go_simp <;> with_reducible rfl)
  try simp only [Act.put, List.setIfInBounds_toArray, List.set_cons_zero, List.set_cons_succ]
  refine takeH (i := 21) (d := some 29) (v := ?v21) rfl rfl (by kernel_rfl) (by kernel_rfl) (by kernel_rfl) (fun _ _ _ h => h) (by rfl) ?hy21 (by assumption) ?rest21
  case hy21 => (intro W hSw; (try dsimp only at hSw); go_simp <;> with_reducible rfl)
  try simp only [Act.put, List.setIfInBounds_toArray, List.set_cons_zero, List.set_cons_succ]
  refine takeH (i := 22) (d := some 30) (v := ?v22) rfl rfl (by kernel_rfl) (by kernel_rfl) (by kernel_rfl) (fun _ _ _ h => h) (by rfl) ?hy22 (by assumption) ?rest22
  case hy22 => (intro W hSw; (try dsimp only at hSw); go_simp <;> with_reducible rfl)
  try simp only [Act.put, List.setIfInBounds_toArray, List.set_cons_zero, List.set_cons_succ]
  refine takeH (i := 23) (d := some 4) (v := ?v23) rfl rfl (by kernel_rfl) (by kernel_rfl) (by kernel_rfl) (fun _ _ _ h => h) (by rfl) ?hy23 (by assumption) ?rest23
  case hy23 => (intro W hSw; (try dsimp only at hSw); go_simp <;> with_reducible rfl)
  try simp only [Act.put, List.setIfInBounds_toArray, List.set_cons_zero, List.set_cons_succ]
  refine takeH (i := 24) (d := some 5) (v := ?v24) rfl rfl (by kernel_rfl) (by kernel_rfl) (by kernel_rfl) (fun _ _ _ h => h) (by rfl) ?hy24 (by assumption) ?rest24
  case hy24 => (intro W hSw; (try dsimp only at hSw); go_simp <;> with_reducible rfl)
  try simp only [Act.put, List.setIfInBounds_toArray, List.set_cons_zero, List.set_cons_succ]
  refine wpAnyH_done (by kernel_rfl) ?_ _
  go_wp2_with fail
  go_ret
  exact ⟨rfl, k8.bel⟩

theorem i_nodeput (kind links size a b c d e dep many : Int) (w : World) (hT : Tab w) : Calls Tryd.prog 10 #[.agg #[.int .i64 kind, .int .i64 links, .int .i64 size, .int .i64 a, .int .i64 b, .int .i64 c, .int .i64 d, .int .i64 e, .int .i64 dep, .int .i64 many]] w fun r w' => r = .returned (.string (nodeT ⟨kind, links, size, ⟨a, b, c, d, e⟩, dep, many⟩)) ∧ Below w.heap.size w w' := by
  have hO := fun w => i_nodeok kind links size a b c d e dep many w
  have n0 := KN.new w kind links size a b c d e dep many 33
  cases hk : nodeOk ⟨kind, links, size, ⟨a, b, c, d, e⟩, dep, many⟩ with
  | false =>
    rw [nodeT_no hk]
    rw [hk] at hO
    clear hk
    go_enter Tryd.func10, Tryd.ntmps10
    go_upto_region 1 with fail
    generalize hW0 : w.alloc (.cells #[.int .i64 kind, .int .i64 links, .int .i64 size, .int .i64 a, .int .i64 b, .int .i64 c, .int .i64 d, .int .i64 e, .int .i64 dep, .int .i64 many] 33) = W0 at n0
    clear hW0
    obtain ⟨y0, y1, y2, y3, y4, y5, y6, y7, y8, y9, yg, yb⟩ := id n0
    go_wp2_with (go_at_call 25; refine (hO _).mono ?_; rintro r w2 ⟨rfl, hb2⟩)
    go_ret
    exact ⟨rfl, (n0.next hb2).bel⟩
  | true =>
    rw [nodeT_yes hk]
    have hX := fun W (hb : Below w.heap.size w W) => i_nodetext kind links size a b c d e dep many W hk (hT.at hb)
    rw [hk] at hO
    clear hk
    generalize strOf (recL (flds ⟨kind, links, size, ⟨a, b, c, d, e⟩, dep, many⟩)) = TT at hX ⊢
    go_enter Tryd.func10, Tryd.ntmps10
    go_upto_region 1 with fail
    generalize hW0 : w.alloc (.cells #[.int .i64 kind, .int .i64 links, .int .i64 size, .int .i64 a, .int .i64 b, .int .i64 c, .int .i64 d, .int .i64 e, .int .i64 dep, .int .i64 many] 33) = W0 at n0
    clear hW0
    obtain ⟨y0, y1, y2, y3, y4, y5, y6, y7, y8, y9, yg, yb⟩ := id n0
    go_wp2_with (first | (go_at_call 25; refine (hO _).mono ?_; rintro r w2 ⟨rfl, hb2⟩; have n2 := n0.next hb2; obtain ⟨y0, y1, y2, y3, y4, y5, y6, y7, y8, y9, yg, yb⟩ := id n2) | (go_at_call 26; refine (hX _ n2.bel).mono ?_; rintro r w3 ⟨rfl, hb3⟩))
    go_ret
    exact ⟨rfl, (n2.next hb3).bel⟩
end Go.Proofs.YtehmaacbmkfedaaDoor
