/-
  NodeGet, the program's, and the law on it.
-/
import Derived.Test.YtehmaacbmkfedaaDoorNgi
import Derived.Test.YtehmaacbmkfedaaDoorNto
namespace Go.Proofs.YtehmaacbmkfedaaDoor
open Go.RowKit
set_option linter.unusedVariables false

theorem i_nodeget (s : ByteArray) (w : World) (hs : s.size ≤ 1048576) (hE : Env w) : Calls Tryd.prog 12 #[.string s] w (NGet s w) := by
  have r0 := NB.new w 0 0 0 0 0 0 0 0 0 0 33
  have B0 : Below w.heap.size w (w.alloc (.cells #[.int .i64 0, .int .i64 0, .int .i64 0, .int .i64 0, .int .i64 0, .int .i64 0, .int .i64 0, .int .i64 0, .int .i64 0, .int .i64 0] 33)) := bel_new (Below.refl _ _) _
  have hR9 := fun W (hb : Below w.heap.size w W) => i_readnode s W hs (hE.at hb)
  by_cases hex : ∃ ss, isRec s.data.toList ss ∧ sixOk ss
  · obtain ⟨ss, hr, h6⟩ := hex
    have hR : ∀ W, Below w.heap.size w W → Calls Tryd.prog 30 #[.string s] W fun e w' => e = .returned (.tuple #[(nodeOf ss).val, .bool true]) ∧ Below W.heap.size W w' := fun W hb => (hR9 W hb).mono fun e w' ⟨hb2, h⟩ => h.elim (fun ⟨tt, ht, _, he⟩ => by obtain rfl : tt = ss := recL_inj (ht.2.2.symm.trans hr.2.2); exact ⟨he, hb2⟩) (fun ⟨hno, _⟩ => absurd h6 (hno ss hr))
    have hY : nodeOk (nodeOf ss) = true → NodeOf s (nodeOf ss) := fun hk => nodeOf_yes hr.2.2 (six_seven h6 hk)
    have hX : nodeOk (nodeOf ss) = false → ∀ n, ¬ NodeOf s n := fun hk => nodeOf_no hr.2.2 (fun h => by have := (seven_six h).2; rw [hk] at this; cases this)
    clear hr h6 hE hR9
    obtain ⟨⟨kind, links, size, ⟨a, b, c, d, e⟩, dep, many⟩, hn⟩ : ∃ n, n = nodeOf ss := ⟨_, rfl⟩
    rw [← hn] at hR hY hX
    clear hn
    have hO := fun w => i_nodeok kind links size a b c d e dep many w
    have hR : ∀ W, Below w.heap.size w W → Calls Tryd.prog 30 #[.string s] W fun e' w' => e' = .returned (.tuple #[.agg #[.int .i64 kind, .int .i64 links, .int .i64 size, .int .i64 a, .int .i64 b, .int .i64 c, .int .i64 d, .int .i64 e, .int .i64 dep, .int .i64 many], .bool true]) ∧ Below W.heap.size W w' := hR
    go_enter Tryd.func12, Tryd.ntmps12
    go_upto_region 1 with fail
    generalize hW0 : w.alloc (.cells #[.int .i64 0, .int .i64 0, .int .i64 0, .int .i64 0, .int .i64 0, .int .i64 0, .int .i64 0, .int .i64 0, .int .i64 0, .int .i64 0] 33) = W0 at r0 B0
    clear hW0
    have hR0 := hR W0 B0
    clear hR
    go_upto_region 2 with (go_at_call 30; refine hR0.mono ?_; rintro r w1 ⟨rfl, hb1⟩; refine Hid.out ?_)
    refine Lib.hid ?_
    have r1 := r0.below hb1
    have B1 := B0.trans (hb1.mono B0.size)
    go_upto_region 2 with fail
    have n2 := NB.new w1 kind links size a b c d e dep many 33
    have bw : Below w1.heap.size w1 (w1.alloc (.cells #[.int .i64 kind, .int .i64 links, .int .i64 size, .int .i64 a, .int .i64 b, .int .i64 c, .int .i64 d, .int .i64 e, .int .i64 dep, .int .i64 many] 33)) := bel_new (Below.refl _ _) _
    have r2 := r1.below bw
    have B2 := B1.trans (bw.mono B1.size)
    generalize hG : w1.heap.size = g at n2
    generalize hW2 : w1.alloc (.cells #[.int .i64 kind, .int .i64 links, .int .i64 size, .int .i64 a, .int .i64 b, .int .i64 c, .int .i64 d, .int .i64 e, .int .i64 dep, .int .i64 many] 33) = W2 at n2 bw r2 B2
    clear hW2 bw r1 B1 hb1 hR0 r0 B0 hG
    obtain ⟨y0, y1, y2, y3, y4, y5, y6, y7, y8, y9⟩ := n2.cells
    cases hk : nodeOk ⟨kind, links, size, ⟨a, b, c, d, e⟩, dep, many⟩ with
    | false =>
      have HV := Lib.hid (hX hk)
      rw [hk] at hO
      clear hX hY hk
      go_wp2_with (go_at_call 25; refine (hO _).mono ?_; rintro r w5 ⟨rfl, hb5⟩; have r5 := r2.below hb5; have B5 := B2.trans (hb5.mono B2.size); obtain ⟨z0, z1, z2, z3, z4, z5, z6, z7, z8, z9⟩ := r5.cells; have f0 := r5.fro 0; have f1 := r5.fro 1; have f2 := r5.fro 2; have f3 := r5.fro 3; have f4 := r5.fro 4; have f5 := r5.fro 5; have f6 := r5.fro 6; have f7 := r5.fro 7; have f8 := r5.fro 8; have f9 := r5.fro 9)
      refine bodyPost_ret (v := .tuple #[Nd.zero.val, .bool false]) ?_ rfl (NGet.no HV.out (bel_set10 B5 (Nat.le_refl _) _ _ _ _ _ _ _ _ _ _))
      rw [results_cell_tmp rfl]
      go_simp
      rfl
    | true =>
      have HV := Lib.hid (hY hk)
      rw [hk] at hO
      clear hX hY hk
      go_wp2_with (go_at_call 25; refine (hO _).mono ?_; rintro r w5 ⟨rfl, hb5⟩; have n5 := n2.below hb5; obtain ⟨y0, y1, y2, y3, y4, y5, y6, y7, y8, y9⟩ := n5.cells; have r5 := r2.below hb5; have B5 := B2.trans (hb5.mono B2.size); obtain ⟨z0, z1, z2, z3, z4, z5, z6, z7, z8, z9⟩ := r5.cells; have f0 := r5.fro 0; have f1 := r5.fro 1; have f2 := r5.fro 2; have f3 := r5.fro 3; have f4 := r5.fro 4; have f5 := r5.fro 5; have f6 := r5.fro 6; have f7 := r5.fro 7; have f8 := r5.fro 8; have f9 := r5.fro 9)
      refine bodyPost_ret (v := .tuple #[Nd.val ⟨kind, links, size, ⟨a, b, c, d, e⟩, dep, many⟩, .bool true]) ?_ rfl (NGet.yes HV.out (bel_set10 B5 (Nat.le_refl _) _ _ _ _ _ _ _ _ _ _))
      rw [results_cell_tmp rfl]
      go_simp
      rfl
  · have hno : ∀ ss, isRec s.data.toList ss → ¬ sixOk ss := fun ss h h6 => hex ⟨ss, h, h6⟩
    have HV : Hid (∀ n, ¬ NodeOf s n) := Lib.hid (fun n hn => hno (flds n) ⟨by show 7 ≤ 60; omega, by have := recL_short (flds n) (flds_size n); have hl : (flds n).length = 7 := rfl; omega, hn.2⟩ (seven_six (seven_flds hn.1)).1)
    have hR : ∀ W, Below w.heap.size w W → Calls Tryd.prog 30 #[.string s] W fun e w' => e = .returned (.tuple #[.agg #[.int .i64 0, .int .i64 0, .int .i64 0, .int .i64 0, .int .i64 0, .int .i64 0, .int .i64 0, .int .i64 0, .int .i64 0, .int .i64 0], .bool false]) ∧ Below W.heap.size W w' := fun W hb => (hR9 W hb).mono fun e w' ⟨hb2, h⟩ => h.elim (fun ⟨tt, ht, h6, he⟩ => absurd h6 (hno tt ht)) (fun ⟨_, he⟩ => ⟨he, hb2⟩)
    clear hno hex hR9 hE
    go_enter Tryd.func12, Tryd.ntmps12
    go_upto_region 1 with fail
    generalize hW0 : w.alloc (.cells #[.int .i64 0, .int .i64 0, .int .i64 0, .int .i64 0, .int .i64 0, .int .i64 0, .int .i64 0, .int .i64 0, .int .i64 0, .int .i64 0] 33) = W0 at r0 B0
    clear hW0
    have hR0 := hR W0 B0
    clear hR
    go_upto_region 2 with (go_at_call 30; refine hR0.mono ?_; rintro r w1 ⟨rfl, hb1⟩; refine Hid.out ?_)
    refine Lib.hid ?_
    have r1 := r0.below hb1
    have B1 := B0.trans (hb1.mono B0.size)
    go_upto_region 2 with fail
    have bw : Below w1.heap.size w1 (w1.alloc (.cells #[.int .i64 0, .int .i64 0, .int .i64 0, .int .i64 0, .int .i64 0, .int .i64 0, .int .i64 0, .int .i64 0, .int .i64 0, .int .i64 0] 33)) := bel_new (Below.refl _ _) _
    have r2 := r1.below bw
    have B2 := B1.trans (bw.mono B1.size)
    generalize hW2 : w1.alloc (.cells #[.int .i64 0, .int .i64 0, .int .i64 0, .int .i64 0, .int .i64 0, .int .i64 0, .int .i64 0, .int .i64 0, .int .i64 0, .int .i64 0] 33) = W2 at bw r2 B2
    clear hW2 bw r1 B1 hb1 hR0 r0 B0
    obtain ⟨z0, z1, z2, z3, z4, z5, z6, z7, z8, z9⟩ := r2.cells
    have f0 := r2.fro 0
    have f1 := r2.fro 1
    have f2 := r2.fro 2
    have f3 := r2.fro 3
    have f4 := r2.fro 4
    have f5 := r2.fro 5
    have f6 := r2.fro 6
    have f7 := r2.fro 7
    have f8 := r2.fro 8
    have f9 := r2.fro 9
    go_wp2_with fail
    refine bodyPost_ret (v := .tuple #[Nd.zero.val, .bool false]) ?_ rfl (NGet.no HV.out (bel_set10 B2 (Nat.le_refl _) _ _ _ _ _ _ _ _ _ _))
    rw [results_cell_tmp rfl]
    go_simp
    rfl
end Go.Proofs.YtehmaacbmkfedaaDoor
