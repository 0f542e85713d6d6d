/-
  readParts and PtrGet, the program's: what they answer at every text.
-/
import Derived.Test.YtehmaacbmkfedaaDoorNums
import Derived.Test.YtehmaacbmkfedaaDoorReg
namespace Go.Proofs.YtehmaacbmkfedaaDoor
open Go.RowKit
set_option linter.unusedVariables false

theorem splitB_short (sep : ByteArray) (save : Nat) : ∀ (k : Nat) (s p : ByteArray), p ∈ Lib.splitB sep save k s → p.size ≤ s.size
  | 0, s, p, h => by
    rw [Lib.splitB_zero, List.mem_singleton] at h
    rw [h]
    exact Nat.le_refl _
  | k + 1, s, p, h => by
    unfold Lib.splitB at h
    split at h
    · rw [List.mem_singleton] at h
      rw [h]
      exact Nat.le_refl _
    · rcases List.mem_cons.1 h with rfl | h
      · simp [ByteArray.size_extract]; omega
      · have := splitB_short sep save k _ p h
        simp [ByteArray.size_extract] at this
        omega
/-- Five cells of a row, till the end of the region. -/
def H5 (wr : World) (g : Nat) (a b c d e : Int) (W : World) : Prop :=
  W.cell? ⟨g, 0, none⟩ = some (.int .i64 a) ∧ W.cell? ⟨g, 1, none⟩ = some (.int .i64 b) ∧ W.cell? ⟨g, 2, none⟩ = some (.int .i64 c) ∧ W.cell? ⟨g, 3, none⟩ = some (.int .i64 d) ∧ W.cell? ⟨g, 4, none⟩ = some (.int .i64 e)
theorem H5.set {wr W : World} {g B k : Nat} {a b c d e : Int} (h : H5 wr g a b c d e W) (hn : B ≠ g) (v : Value) : H5 wr g a b c d e (W.setCell ⟨B, k, none⟩ v) := by
  obtain ⟨h0, h1, h2, h3, h4⟩ := h
  have hc : ∀ i, (W.setCell ⟨B, k, none⟩ v).cell? ⟨g, i, none⟩ = W.cell? ⟨g, i, none⟩ := fun i => by rw [World.cell?_setCell_other (h := fun e => hn (congrArg Addr.block e))]
  exact ⟨by rw [hc, h0], by rw [hc, h1], by rw [hc, h2], by rw [hc, h3], by rw [hc, h4]⟩
theorem H5.drew {wr W : World} {g : Nat} {a b c d e : Int} (h : H5 wr g a b c d e W) : H5 wr g a b c d e W.drew := h

set_option maxRecDepth 100000 in
set_option maxHeartbeats 2000000 in
theorem impl_parts (s : ByteArray) (w : World) (hs : s.size ≤ 1048576) (hE : Env w) :
    Calls Tryd.prog 78 #[.string s] w fun e w' => e = .returned (.tuple #[(parts s).1.val, .bool (parts s).2]) ∧ Below w.heap.size w w' := by
  have hC := fun W (hM : MaxL W) => splitN_any s 46 6 W hs hM (by decide) (by decide)
  rw [show ((6 : Nat) : Int) = 6 from rfl] at hC
  have hone := split_one 46 5 s (by decide)
  have hsq := fun p => splitB_short ⟨#[46]⟩ 0 (min 6 (s.size + 1) - 1) s p
  have hlq := Lib.splitB_length_le ⟨#[46]⟩ 0 (min 6 (s.size + 1) - 1) s
  obtain ⟨qs, hqs⟩ : ∃ qs, qs = Lib.splitB ⟨#[46]⟩ 0 (min 6 (s.size + 1) - 1) s := ⟨_, rfl⟩
  rw [← hqs] at hC hlq
  rw [← hqs] at hsq
  rw [show (5 : Nat) + 1 = 6 from rfl, ← hqs] at hone
  have hl6 : qs.length ≤ 100 := by omega
  have hpn := @parts_no s
  have hpy := @parts_yes s
  obtain ⟨ps, hps⟩ : ∃ ps, ps = cutsB 46 s := ⟨_, rfl⟩
  rw [← hps] at hone hpn hpy
  obtain ⟨r, hr⟩ : ∃ r, r = parts s := ⟨_, rfl⟩
  rw [← hr] at hpn hpy ⊢
  clear hps hr hqs hlq
  have hN : ∀ A cap W, StrsAt W A qs → Env W → Calls Tryd.prog 56 #[.slice A qs.length cap] W (NumsPost qs W) := fun A cap W hA hE => impl_nums A cap qs W hl6 (fun p hp => by have := hsq p hp; omega) hA hE
  clear hsq
  by_cases hall : ∀ k (hk : k < qs.length), isNum qs[k] = true
  · by_cases h5 : qs.length = 5
    · have hqp : qs = ps := by
        rcases hone with ⟨_, h⟩ | ⟨_, h⟩
        · exact h
        · exact absurd h5 h
      subst hqp
      have hv := hpy h5 (nums_all hall)
      subst hv
      have hN2 : ∀ A cap W, StrsAt W A qs → Env W → Calls Tryd.prog 56 #[.slice A qs.length cap] W fun e w' => ∃ g c : Nat, e = .returned (.tuple #[.slice (some ⟨g, 0, none⟩) 5 c, .bool true]) ∧ w'.ownsRow W.heap.size 3 1 (.slice (some ⟨g, 0, none⟩) 5 c) 5 (intCells (qs.take 5)) ∧ Below W.heap.size W w' := fun A cap W hA hE => (hN A cap W hA hE).mono fun e w' ⟨hb, h⟩ => h.elim (fun ⟨_, g, c, he, ho⟩ => ⟨g, c, by rw [he, h5], by rw [List.take_of_length_le (by omega)]; rw [h5] at ho; exact ho, hb⟩) (fun ⟨hno, _⟩ => absurd hall hno)
      have HA := Lib.hid (fun (W : World) (base g c : Nat) (h : W.ownsRow base 3 1 (.slice (some ⟨g, 0, none⟩) 5 c) 5 (intCells (qs.take 5))) => ints_at h h5)
      clear hN hone hall hpn hpy h5
      obtain ⟨a, b, c, d, e, hq⟩ : ∃ a b c d e, five qs = ⟨a, b, c, d, e⟩ := ⟨_, _, _, _, _, rfl⟩
      rw [hq] at HA ⊢
      clear hq
      go_enter Tryd.func78, Tryd.ntmps78
      go_upto_region 2 with (go_at_call 93; refine (hC _ (hE.2.2.below (bel_fresh w))).mono ?_; rintro e' w1 ⟨g, cp, rfl, hA, hb⟩; refine Hid.out ?_)
      refine Lib.hid ?_
      have Z := RBox.new hb
      have hbw : Below w.heap.size w w1 := bel_then (bel_fresh w) hb
      have hN3 := hN2 (some ⟨g, 0, none⟩) cp w1 hA (hE.at hbw)
      clear hN2 hC hA hb hE
      go_upto_region 5 with (go_at_call 56; refine hN3.mono ?_; rintro e' w2 ⟨g2, c2, rfl, ho, hb2⟩; refine Hid.out ?_)
      refine Lib.hid ?_
      have Z2 := Z.next hb2
      obtain ⟨i0, i1, i2, i3, i4⟩ := HA.out w2 w1.heap.size g2 c2 ho
      have hg2 := ho.lt g2 rfl
      have hzl := Z.lt
      have hne : w.heap.size ≠ g2 := by omega
      have hbw2 := bel_then hbw hb2
      have hws := hbw2.size
      have k1 : H5 w2 g2 a b c d e w2 := ⟨i0, i1, i2, i3, i4⟩
      have k0 : H5 w2 g2 a b c d e w2.drew := ⟨i0, i1, i2, i3, i4⟩
      have Z3 : RBox w.heap.size w2.drew := Z2
      have B3 : Below w.heap.size w w2.drew := hbw2.drew
      clear HA hN3 ho Z Z3 hbw hbw2 hb2 i0 i1 i2 i3 i4
      go_upto_region 5 with fail
      refine wp_region_held_drew (S := (fun W => W.cell? ⟨g2, 0, none⟩ = some (.int .i64 a) ∧ W.cell? ⟨g2, 1, none⟩ = some (.int .i64 b) ∧ W.cell? ⟨g2, 2, none⟩ = some (.int .i64 c) ∧ W.cell? ⟨g2, 3, none⟩ = some (.int .i64 d) ∧ W.cell? ⟨g2, 4, none⟩ = some (.int .i64 e))) (by kernel_rfl) (show H5 w2 g2 a b c d e _ from k0) (fun hHeld => ?_)
      refine takeH (i := 0) (d := some 22) (v := ?v0) rfl rfl (by kernel_rfl) (by kernel_rfl) (by kernel_rfl) (fun _ _ _ h => h) (by rfl) ?hy0 (by assumption) ?rest0
      case hy0 => (intro W hSw; (try dsimp only at hSw); go_simp <;> with_reducible rfl)
      try simp only [Act.put, List.setIfInBounds_toArray, List.set_cons_zero, List.set_cons_succ]
      refine takeH (i := 1) (d := some 23) (v := ?v1) rfl rfl (by kernel_rfl) (by kernel_rfl) (by kernel_rfl) (fun _ _ _ h => h) (by rfl) ?hy1 (by assumption) ?rest1
      case hy1 => (intro W hSw; (try dsimp only at hSw); go_simp <;> with_reducible rfl)
      try simp only [Act.put, List.setIfInBounds_toArray, List.set_cons_zero, List.set_cons_succ]
      refine takeH (i := 2) (d := some 24) (v := ?v2) rfl rfl (by kernel_rfl) (by kernel_rfl) (by kernel_rfl) (fun _ _ _ h => h) (by rfl) ?hy2 (by assumption) ?rest2
      case hy2 => (intro W hSw; (try dsimp only at hSw); go_simp <;> with_reducible rfl)
      try simp only [Act.put, List.setIfInBounds_toArray, List.set_cons_zero, List.set_cons_succ]
      refine takeH (i := 3) (d := some 25) (v := ?v3) rfl rfl (by kernel_rfl) (by kernel_rfl) (by kernel_rfl) (fun _ _ _ h => h) (by rfl) ?hy3 (by assumption) ?rest3
      case hy3 => (intro W hSw; (try dsimp only at hSw); go_simp <;> with_reducible rfl)
      try simp only [Act.put, List.setIfInBounds_toArray, List.set_cons_zero, List.set_cons_succ]
      refine takeH (i := 4) (d := some 26) (v := ?v4) rfl rfl (by kernel_rfl) (by kernel_rfl) (by kernel_rfl) (fun _ _ _ h => h) (by rfl) ?hy4 (by assumption) ?rest4
      case hy4 => (intro W hSw; (try dsimp only at hSw); go_simp <;> with_reducible rfl)
      try simp only [Act.put, List.setIfInBounds_toArray, List.set_cons_zero, List.set_cons_succ]
      refine takeH (i := 5) (d := some 27) (v := ?v5) rfl rfl (by kernel_rfl) (by kernel_rfl) (by kernel_rfl) (fun _ _ _ h => h) (by rfl) ?hy5 (by assumption) ?rest5
      case hy5 => (intro W hSw; (try dsimp only at hSw); go_simp <;> with_reducible rfl)
      try simp only [Act.put, List.setIfInBounds_toArray, List.set_cons_zero, List.set_cons_succ]
      refine takeH (i := 6) (d := some 28) (v := ?v6) rfl rfl (by kernel_rfl) (by kernel_rfl) (by kernel_rfl) (fun _ _ _ h => h) (by rfl) ?hy6 (by assumption) ?rest6
      case hy6 => (intro W hSw; (try dsimp only at hSw); go_simp <;> with_reducible rfl)
      try simp only [Act.put, List.setIfInBounds_toArray, List.set_cons_zero, List.set_cons_succ]
      refine takeH (i := 7) (d := some 29) (v := ?v7) rfl rfl (by kernel_rfl) (by kernel_rfl) (by kernel_rfl) (fun _ _ _ h => h) (by rfl) ?hy7 (by assumption) ?rest7
      case hy7 => (intro W hSw; (try dsimp only at hSw); go_simp <;> with_reducible rfl)
      try simp only [Act.put, List.setIfInBounds_toArray, List.set_cons_zero, List.set_cons_succ]
      refine takeH (i := 8) (d := some 30) (v := ?v8) rfl rfl (by kernel_rfl) (by kernel_rfl) (by kernel_rfl) (fun _ _ _ h => h) (by rfl) ?hy8 (by assumption) ?rest8
      case hy8 => (intro W hSw; (try dsimp only at hSw); go_simp <;> with_reducible rfl)
      try simp only [Act.put, List.setIfInBounds_toArray, List.set_cons_zero, List.set_cons_succ]
      refine takeH (i := 9) (d := some 31) (v := ?v9) rfl rfl (by kernel_rfl) (by kernel_rfl) (by kernel_rfl) (fun _ _ _ h => h) (by rfl) ?hy9 (by assumption) ?rest9
      case hy9 => (intro W hSw; (try dsimp only at hSw); go_simp <;> with_reducible rfl)
      try simp only [Act.put, List.setIfInBounds_toArray, List.set_cons_zero, List.set_cons_succ]
      refine takeH (i := 10) (d := some 32) (v := ?v10) rfl rfl (by kernel_rfl) (by kernel_rfl) (by kernel_rfl) (fun _ _ _ h => h) (by rfl) ?hy10 (by assumption) ?rest10
      case hy10 => (intro W hSw; (try dsimp only at hSw); go_simp <;> with_reducible rfl)
      try simp only [Act.put, List.setIfInBounds_toArray, List.set_cons_zero, List.set_cons_succ]
      refine takeH (i := 11) (d := some 33) (v := ?v11) rfl rfl (by kernel_rfl) (by kernel_rfl) (by kernel_rfl) (fun _ _ _ h => h) (by rfl) ?hy11 (by assumption) ?rest11
      case hy11 => (intro W hSw; (try dsimp only at hSw); go_simp <;> with_reducible rfl)
      try simp only [Act.put, List.setIfInBounds_toArray, List.set_cons_zero, List.set_cons_succ]
      refine takeH (i := 12) (d := some 34) (v := ?v12) rfl rfl (by kernel_rfl) (by kernel_rfl) (by kernel_rfl) (fun _ _ _ h => h) (by rfl) ?hy12 (by assumption) ?rest12
      case hy12 => (intro W hSw; (try dsimp only at hSw); go_simp <;> with_reducible rfl)
      try simp only [Act.put, List.setIfInBounds_toArray, List.set_cons_zero, List.set_cons_succ]
      refine takeH (i := 13) (d := some 35) (v := ?v13) rfl rfl (by kernel_rfl) (by kernel_rfl) (by kernel_rfl) (fun _ _ _ h => h) (by rfl) ?hy13 (by assumption) ?rest13
      case hy13 => (intro W hSw; (try dsimp only at hSw); go_simp <;> with_reducible rfl)
      try simp only [Act.put, List.setIfInBounds_toArray, List.set_cons_zero, List.set_cons_succ]
      refine takeH (i := 14) (d := some 36) (v := ?v14) rfl rfl (by kernel_rfl) (by kernel_rfl) (by kernel_rfl) (fun _ _ _ h => h) (by rfl) ?hy14 (by assumption) ?rest14
      case hy14 => (intro W hSw; (try dsimp only at hSw); go_simp <;> with_reducible rfl)
      try simp only [Act.put, List.setIfInBounds_toArray, List.set_cons_zero, List.set_cons_succ]
      refine takeH (i := 15) (d := some 37) (v := ?v15) rfl rfl (by kernel_rfl) (by kernel_rfl) (by kernel_rfl) (fun _ _ _ h => h) (by rfl) ?hy15 (by assumption) ?rest15
      case hy15 => (intro W hSw; (try dsimp only at hSw); go_simp <;> with_reducible rfl)
      try simp only [Act.put, List.setIfInBounds_toArray, List.set_cons_zero, List.set_cons_succ]
      obtain ⟨z0, z1, z2, z3, z4⟩ : _ ∧ _ ∧ _ ∧ _ ∧ _ := ⟨Z2.cell 0 (by decide), Z2.cell 1 (by decide), Z2.cell 2 (by decide), Z2.cell 3 (by decide), Z2.cell 4 (by decide)⟩
      have f0 := Z2.free 0
      have f1 := Z2.free 1
      have f2 := Z2.free 2
      have f3 := Z2.free 3
      have f4 := Z2.free 4
      refine wpAnyH_ready (rs := [16]) (by kernel_rfl) (by simp) ?_
      refine AllReadyH.cons rfl (fun K hK => ?_) AllReadyH.nil
      go_simp
      refine hK.out _ _ (show H5 w2 g2 a b c d e _ from H5.drew (wr := w2) (((((k1.set hne _).set hne _).set hne _).set hne _).set hne _)) (fun hHeld => ?_)
      clear hK K
      try simp only [Act.put, List.setIfInBounds_toArray, List.set_cons_zero, List.set_cons_succ]
      refine takeH (i := 17) (d := some 3) (v := ?v17) rfl rfl (by kernel_rfl) (by kernel_rfl) (by kernel_rfl) (fun _ _ _ h => h) (by rfl) ?hy17 (by assumption) ?rest17
      case hy17 => (intro W hSw; (try dsimp only at hSw); go_simp <;> with_reducible rfl)
      try simp only [Act.put, List.setIfInBounds_toArray, List.set_cons_zero, List.set_cons_succ]
      refine wpAnyH_done (by kernel_rfl) ?_ _
      go_wp2_with fail
      refine bodyPost_ret (v := .tuple #[P5.val ⟨a, b, c, d, e⟩, .bool true]) ?_ rfl ⟨rfl, bel_five B3 _ (Nat.le_refl _) _ _ _ _ _⟩
      rw [results_cell_tmp rfl]
      go_simp
      rfl
    · have hv : r = (.zero, false) := hpn (fun h => by
        rcases hone with ⟨_, h2⟩ | ⟨h2, _⟩
        · rw [h2] at h5; exact h5 h.1
        · exact h2 h.1)
      rw [hv]
      have hN2 : ∀ A cap W, StrsAt W A qs → Env W → Calls Tryd.prog 56 #[.slice A qs.length cap] W fun e w' => (∃ (g c : Nat), e = .returned (.tuple #[.slice (some ⟨g, 0, none⟩) qs.length c, .bool true])) ∧ Below W.heap.size W w' := fun A cap W hA hE => (hN A cap W hA hE).mono fun e w' ⟨hb, h⟩ => h.elim (fun ⟨hy, g, c, he, _⟩ => ⟨⟨g, c, he⟩, hb⟩) (fun ⟨hno, he⟩ => absurd hall hno)
      have hq5 : ((qs.length : Int) != 5) = true := by rw [bne_iff_ne]; omega
      clear hv hN hone hall hpn hpy hl6 h5
      go_enter Tryd.func78, Tryd.ntmps78
      go_upto_region 2 with (go_at_call 93; refine (hC _ (hE.2.2.below (bel_fresh w))).mono ?_; rintro e' w1 ⟨g, cp, rfl, hA, hb⟩; refine Hid.out ?_)
      refine Lib.hid ?_
      have Z := RBox.new hb
      have hbw : Below w.heap.size w w1 := bel_then (bel_fresh w) hb
      have hN3 := hN2 (some ⟨g, 0, none⟩) cp w1 hA (hE.at hbw)
      clear hN2 hC hA hb hE
      go_upto_region 3 with (go_at_call 56; refine hN3.mono ?_; rintro e' w2 ⟨⟨g2, c2, rfl⟩, hb2⟩; refine Hid.out ?_)
      refine Lib.hid ?_
      have Z2 := Z.next hb2
      have z0 := Z2.cell 0 (by decide)
      have z1 := Z2.cell 1 (by decide)
      have z2 := Z2.cell 2 (by decide)
      have z3 := Z2.cell 3 (by decide)
      have z4 := Z2.cell 4 (by decide)
      have f0 := Z2.free 0
      have f1 := Z2.free 1
      have f2 := Z2.free 2
      have f3 := Z2.free 3
      have f4 := Z2.free 4
      go_wp2_with fail
      refine bodyPost_ret (v := .tuple #[P5.zero.val, .bool false]) ?_ rfl ⟨rfl, bel_five (bel_then hbw hb2) _ (Nat.le_refl _) _ _ _ _ _⟩
      rw [results_cell_tmp rfl]
      go_simp
      rfl
  · have hv : r = (.zero, false) := hpn (fun h => hall (by
      rcases hone with ⟨_, h2⟩ | ⟨h2, _⟩
      · rw [h2]; exact fun k hk => h.2 _ (List.getElem_mem _)
      · exact absurd h.1 h2))
    rw [hv]
    have hN2 : ∀ A cap W, StrsAt W A qs → Env W → Calls Tryd.prog 56 #[.slice A qs.length cap] W fun e w' => e = .returned (.tuple #[.slice none 0 0, .bool false]) ∧ Below W.heap.size W w' := fun A cap W hA hE => (hN A cap W hA hE).mono fun e w' ⟨hb, h⟩ => h.elim (fun ⟨hy, _⟩ => absurd hy hall) (fun ⟨_, he⟩ => ⟨he, hb⟩)
    clear hv hN hone hall hpn hpy hl6
    go_enter Tryd.func78, Tryd.ntmps78
    go_upto_region 2 with (go_at_call 93; refine (hC _ (hE.2.2.below (bel_fresh w))).mono ?_; rintro e' w1 ⟨g, cp, rfl, hA, hb⟩; refine Hid.out ?_)
    refine Lib.hid ?_
    have Z := RBox.new hb
    have hbw : Below w.heap.size w w1 := bel_then (bel_fresh w) hb
    have hN3 := hN2 (some ⟨g, 0, none⟩) cp w1 hA (hE.at hbw)
    clear hN2 hC hA hb hE
    go_upto_region 3 with (go_at_call 56; refine hN3.mono ?_; rintro e' w2 ⟨rfl, hb2⟩; refine Hid.out ?_)
    refine Lib.hid ?_
    have Z2 := Z.next hb2
    have z0 := Z2.cell 0 (by decide)
    have z1 := Z2.cell 1 (by decide)
    have z2 := Z2.cell 2 (by decide)
    have z3 := Z2.cell 3 (by decide)
    have z4 := Z2.cell 4 (by decide)
    have f0 := Z2.free 0
    have f1 := Z2.free 1
    have f2 := Z2.free 2
    have f3 := Z2.free 3
    have f4 := Z2.free 4
    go_wp2_with fail
    refine bodyPost_ret (v := .tuple #[P5.zero.val, .bool false]) ?_ rfl ⟨rfl, bel_five (bel_then hbw hb2) _ (Nat.le_refl _) _ _ _ _ _⟩
    rw [results_cell_tmp rfl]
    go_simp
    rfl

set_option maxRecDepth 100000 in
set_option maxHeartbeats 2000000 in
theorem impl_pget (s : ByteArray) (w : World) (hs : s.size ≤ 1048576) (hE : Env w) :
    Calls Tryd.prog 55 #[.string s] w fun e w' => e = .returned (.tuple #[(ptrG s).1.val, .bool (ptrG s).2]) ∧ Below w.heap.size w w' := by
  by_cases h1 : s = ⟨#[45]⟩
  · subst h1
    rw [ptrG_hole]
    go_enter Tryd.func55, Tryd.ntmps55
    go_wp2
    refine bodyPost_ret (v := .tuple #[P5.zero.val, .bool true]) ?_ rfl ⟨rfl, (by repeat' (first | exact Below.refl _ _ | refine bel_new ?_ _ | refine Below.drew ?_))⟩
    rw [results_cell_tmp rfl]
    go_simp
    rfl
  · have hq0 := str45 h1
    have hP := impl_parts s (w.alloc (.cells #[.int .i64 0, .int .i64 0, .int .i64 0, .int .i64 0, .int .i64 0] 29)) hs (hE.at (bel_fresh w))
    have hno := @ptrG_no s h1
    have hbad := @ptrG_bad s h1
    have hzero := @ptrG_zero s h1
    have hyes := @ptrG_yes s h1
    obtain ⟨r, hr⟩ : ∃ r, r = ptrG s := ⟨_, rfl⟩
    rw [← hr] at hno hbad hzero hyes ⊢
    obtain ⟨⟨⟨a, b, c, d, e⟩, o⟩, hq⟩ : ∃ q, q = parts s := ⟨_, rfl⟩
    rw [← hq] at hP hno hbad hzero hyes
    have hO : ∀ W, Calls Tryd.prog 72 #[.agg #[.int .i64 a, .int .i64 b, .int .i64 c, .int .i64 d, .int .i64 e]] W fun r w' => r = .returned (.bool (isOk a b c d e)) ∧ Below W.heap.size W w' := fun W => (m_ok a b c d e W).mono fun r w' ⟨h1, h2⟩ => ⟨h1, h2 ▸ bel_new (bel_new (Below.refl _ _) _) _⟩
    have hM : ∀ W, Calls Tryd.prog 73 #[.agg #[.int .i64 a, .int .i64 b, .int .i64 c, .int .i64 d, .int .i64 e]] W fun r w' => r = .returned (.bool (isHole a b c d e)) ∧ Below W.heap.size W w' := fun W => (m_hole a b c d e W).mono fun r w' ⟨h1, h2⟩ => ⟨h1, h2 ▸ bel_new (Below.refl _ _) _⟩
    have hP2 : Calls Tryd.prog 78 #[.string s] (w.alloc (.cells #[.int .i64 0, .int .i64 0, .int .i64 0, .int .i64 0, .int .i64 0] 29)) fun e' w' => e' = .returned (.tuple #[.agg #[.int .i64 a, .int .i64 b, .int .i64 c, .int .i64 d, .int .i64 e], .bool o]) ∧ Below (w.alloc (.cells #[.int .i64 0, .int .i64 0, .int .i64 0, .int .i64 0, .int .i64 0] 29)).heap.size (w.alloc (.cells #[.int .i64 0, .int .i64 0, .int .i64 0, .int .i64 0, .int .i64 0] 29)) w' := hP
    clear h1 hr hq hE hP
    cases o
    · have hv : r = (.zero, false) := hno rfl
      subst hv
      clear hno hbad hzero hyes
      go_enter Tryd.func55, Tryd.ntmps55
      go_wp2_with (first | (go_at_call 78; refine hP2.mono ?_; rintro e w1 ⟨rfl, hb⟩; have hbw := bel_then (bel_fresh w) hb; have H9 := HP.new w1 a b c d e 29; have yb := H9.2.2.2.2.2.2; have Z := RBox.new hb; have Z1 := Z.next H9.2.2.2.2.2.2; have z0 := Z1.cell 0 (by decide); have z1 := Z1.cell 1 (by decide); have z2 := Z1.cell 2 (by decide); have z3 := Z1.cell 3 (by decide); have z4 := Z1.cell 4 (by decide); have f0 := Z1.free 0; have f1 := Z1.free 1; have f2 := Z1.free 2; have f3 := Z1.free 3; have f4 := Z1.free 4) | (go_at_call 72; refine (hO _).mono ?_; rintro e w5 ⟨rfl, hb5⟩; have H5 := H9.next hb5; obtain ⟨y0, y1, y2, y3, y4, yl, yb⟩ := id H5; have Z5 := Z.next H5.2.2.2.2.2.2; have z0 := Z5.cell 0 (by decide); have z1 := Z5.cell 1 (by decide); have z2 := Z5.cell 2 (by decide); have z3 := Z5.cell 3 (by decide); have z4 := Z5.cell 4 (by decide); have f0 := Z5.free 0; have f1 := Z5.free 1; have f2 := Z5.free 2; have f3 := Z5.free 3; have f4 := Z5.free 4) | (go_at_call 73; refine (hM _).mono ?_; rintro e w6 ⟨rfl, hb6⟩; have H6 := H5.next hb6; obtain ⟨y0, y1, y2, y3, y4, yl, yb⟩ := id H6; have Z6 := Z.next H6.2.2.2.2.2.2; have z0 := Z6.cell 0 (by decide); have z1 := Z6.cell 1 (by decide); have z2 := Z6.cell 2 (by decide); have z3 := Z6.cell 3 (by decide); have z4 := Z6.cell 4 (by decide); have f0 := Z6.free 0; have f1 := Z6.free 1; have f2 := Z6.free 2; have f3 := Z6.free 3; have f4 := Z6.free 4))
      refine bodyPost_ret (v := .tuple #[P5.zero.val, .bool false]) ?_ rfl ⟨rfl, bel_five (bel_then hbw yb) _ (Nat.le_refl _) _ _ _ _ _⟩
      rw [results_cell_tmp rfl]
      go_simp
      rfl
    · by_cases hk : isOk a b c d e = true
      · by_cases hh : isHole a b c d e = true
        · have hv : r = (.zero, false) := hzero hh
          subst hv
          rw [hk] at hO
          rw [hh] at hM
          clear hk hh hno hbad hzero hyes
          go_enter Tryd.func55, Tryd.ntmps55
          go_wp2_with (first | (go_at_call 78; refine hP2.mono ?_; rintro e w1 ⟨rfl, hb⟩; have hbw := bel_then (bel_fresh w) hb; have H9 := HP.new w1 a b c d e 29; have yb := H9.2.2.2.2.2.2; have Z := RBox.new hb; have Z1 := Z.next H9.2.2.2.2.2.2; have z0 := Z1.cell 0 (by decide); have z1 := Z1.cell 1 (by decide); have z2 := Z1.cell 2 (by decide); have z3 := Z1.cell 3 (by decide); have z4 := Z1.cell 4 (by decide); have f0 := Z1.free 0; have f1 := Z1.free 1; have f2 := Z1.free 2; have f3 := Z1.free 3; have f4 := Z1.free 4) | (go_at_call 72; refine (hO _).mono ?_; rintro e w5 ⟨rfl, hb5⟩; have H5 := H9.next hb5; obtain ⟨y0, y1, y2, y3, y4, yl, yb⟩ := id H5; have Z5 := Z.next H5.2.2.2.2.2.2; have z0 := Z5.cell 0 (by decide); have z1 := Z5.cell 1 (by decide); have z2 := Z5.cell 2 (by decide); have z3 := Z5.cell 3 (by decide); have z4 := Z5.cell 4 (by decide); have f0 := Z5.free 0; have f1 := Z5.free 1; have f2 := Z5.free 2; have f3 := Z5.free 3; have f4 := Z5.free 4) | (go_at_call 73; refine (hM _).mono ?_; rintro e w6 ⟨rfl, hb6⟩; have H6 := H5.next hb6; obtain ⟨y0, y1, y2, y3, y4, yl, yb⟩ := id H6; have Z6 := Z.next H6.2.2.2.2.2.2; have z0 := Z6.cell 0 (by decide); have z1 := Z6.cell 1 (by decide); have z2 := Z6.cell 2 (by decide); have z3 := Z6.cell 3 (by decide); have z4 := Z6.cell 4 (by decide); have f0 := Z6.free 0; have f1 := Z6.free 1; have f2 := Z6.free 2; have f3 := Z6.free 3; have f4 := Z6.free 4))
          refine bodyPost_ret (v := .tuple #[P5.zero.val, .bool false]) ?_ rfl ⟨rfl, bel_five (bel_then hbw yb) _ (Nat.le_refl _) _ _ _ _ _⟩
          rw [results_cell_tmp rfl]
          go_simp
          rfl
        · have hh' : isHole a b c d e = false := by simpa using hh
          have hv : r = (⟨a, b, c, d, e⟩, true) := hyes rfl hk hh'
          subst hv
          rw [hk] at hO
          rw [hh'] at hM
          clear hk hh hh' hno hbad hzero hyes
          go_enter Tryd.func55, Tryd.ntmps55
          go_wp2_with (first | (go_at_call 78; refine hP2.mono ?_; rintro e w1 ⟨rfl, hb⟩; have hbw := bel_then (bel_fresh w) hb; have H9 := HP.new w1 a b c d e 29; have yb := H9.2.2.2.2.2.2; have Z := RBox.new hb; have Z1 := Z.next H9.2.2.2.2.2.2; have z0 := Z1.cell 0 (by decide); have z1 := Z1.cell 1 (by decide); have z2 := Z1.cell 2 (by decide); have z3 := Z1.cell 3 (by decide); have z4 := Z1.cell 4 (by decide); have f0 := Z1.free 0; have f1 := Z1.free 1; have f2 := Z1.free 2; have f3 := Z1.free 3; have f4 := Z1.free 4) | (go_at_call 72; refine (hO _).mono ?_; rintro e w5 ⟨rfl, hb5⟩; have H5 := H9.next hb5; obtain ⟨y0, y1, y2, y3, y4, yl, yb⟩ := id H5; have Z5 := Z.next H5.2.2.2.2.2.2; have z0 := Z5.cell 0 (by decide); have z1 := Z5.cell 1 (by decide); have z2 := Z5.cell 2 (by decide); have z3 := Z5.cell 3 (by decide); have z4 := Z5.cell 4 (by decide); have f0 := Z5.free 0; have f1 := Z5.free 1; have f2 := Z5.free 2; have f3 := Z5.free 3; have f4 := Z5.free 4) | (go_at_call 73; refine (hM _).mono ?_; rintro e w6 ⟨rfl, hb6⟩; have H6 := H5.next hb6; obtain ⟨y0, y1, y2, y3, y4, yl, yb⟩ := id H6; have Z6 := Z.next H6.2.2.2.2.2.2; have z0 := Z6.cell 0 (by decide); have z1 := Z6.cell 1 (by decide); have z2 := Z6.cell 2 (by decide); have z3 := Z6.cell 3 (by decide); have z4 := Z6.cell 4 (by decide); have f0 := Z6.free 0; have f1 := Z6.free 1; have f2 := Z6.free 2; have f3 := Z6.free 3; have f4 := Z6.free 4))
          refine bodyPost_ret (v := .tuple #[P5.val ⟨a, b, c, d, e⟩, .bool true]) ?_ rfl ⟨rfl, bel_five (bel_then hbw yb) _ (Nat.le_refl _) _ _ _ _ _⟩
          rw [results_cell_tmp rfl]
          go_simp
          rfl
      · have hk' : isOk a b c d e = false := by simpa using hk
        have hv : r = (.zero, false) := hbad hk'
        subst hv
        rw [hk'] at hO
        clear hk hk' hno hbad hzero hyes
        go_enter Tryd.func55, Tryd.ntmps55
        go_wp2_with (first | (go_at_call 78; refine hP2.mono ?_; rintro e w1 ⟨rfl, hb⟩; have hbw := bel_then (bel_fresh w) hb; have H9 := HP.new w1 a b c d e 29; have yb := H9.2.2.2.2.2.2; have Z := RBox.new hb; have Z1 := Z.next H9.2.2.2.2.2.2; have z0 := Z1.cell 0 (by decide); have z1 := Z1.cell 1 (by decide); have z2 := Z1.cell 2 (by decide); have z3 := Z1.cell 3 (by decide); have z4 := Z1.cell 4 (by decide); have f0 := Z1.free 0; have f1 := Z1.free 1; have f2 := Z1.free 2; have f3 := Z1.free 3; have f4 := Z1.free 4) | (go_at_call 72; refine (hO _).mono ?_; rintro e w5 ⟨rfl, hb5⟩; have H5 := H9.next hb5; obtain ⟨y0, y1, y2, y3, y4, yl, yb⟩ := id H5; have Z5 := Z.next H5.2.2.2.2.2.2; have z0 := Z5.cell 0 (by decide); have z1 := Z5.cell 1 (by decide); have z2 := Z5.cell 2 (by decide); have z3 := Z5.cell 3 (by decide); have z4 := Z5.cell 4 (by decide); have f0 := Z5.free 0; have f1 := Z5.free 1; have f2 := Z5.free 2; have f3 := Z5.free 3; have f4 := Z5.free 4) | (go_at_call 73; refine (hM _).mono ?_; rintro e w6 ⟨rfl, hb6⟩; have H6 := H5.next hb6; obtain ⟨y0, y1, y2, y3, y4, yl, yb⟩ := id H6; have Z6 := Z.next H6.2.2.2.2.2.2; have z0 := Z6.cell 0 (by decide); have z1 := Z6.cell 1 (by decide); have z2 := Z6.cell 2 (by decide); have z3 := Z6.cell 3 (by decide); have z4 := Z6.cell 4 (by decide); have f0 := Z6.free 0; have f1 := Z6.free 1; have f2 := Z6.free 2; have f3 := Z6.free 3; have f4 := Z6.free 4))
        refine bodyPost_ret (v := .tuple #[P5.zero.val, .bool false]) ?_ rfl ⟨rfl, bel_five (bel_then hbw yb) _ (Nat.le_refl _) _ _ _ _ _⟩
        rw [results_cell_tmp rfl]
        go_simp
        rfl

end Go.Proofs.YtehmaacbmkfedaaDoor
