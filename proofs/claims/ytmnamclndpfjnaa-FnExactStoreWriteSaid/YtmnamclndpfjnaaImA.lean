/-
  The program's new space, its validity, its room, one reference more, one less.
-/
import Derived.Test.YtmnamclndpfjnaaUses
namespace Go.Proofs.Ytmnamclndpfjnaa
open Go.RowKit

theorem SPost.mk2 {s : Sp} {b : Bool} {w w' : World} {A B : Option Addr} {c e n m : Nat} (hn : n = s.refs.length) (hm : m = s.last.length) (h1 : SpOwn w' w.heap.size (.agg #[.slice A n c, .slice B m e]) s) (h2 : Below w.heap.size w w') : SPost2 s b w (.returned (.tuple #[.agg #[.slice A n c, .slice B m e], .bool b])) w' := by
  subst hn hm
  exact ⟨A, c, B, e, rfl, h1, h2⟩

set_option maxRecDepth 100000 in
set_option maxHeartbeats 2000000 in
theorem impl_new (w : World) : Calls Try.prog 35 #[] w (SPost newS w) := by
  have hmm := @run_makeMap Try.prog
  have b0 := B2.new w 25 (.slice none 0 0) (.slice none 0 0)
  have hM := UMap.made (w.alloc (.cells #[.slice none 0 0, .slice none 0 0] 25)) Try.prog 3
  rw [World.size_alloc] at hM
  have hS := impl_space _ _ _ hM
  rw [newS_of] at hS
  have hle := Nat.le_refl w.heap.size
  go_enter Try.func35, Try.ntmps35
  go_wp2_with (go_at_call 78; refine hS.mono ?_; rintro r w2 ⟨A, c, B, e, rfl, o2, hb2⟩; obtain ⟨⟨y0, y1⟩, f0, f1⟩ := ((b0.alloc _).below hb2).cells)
  have p2 := o2.base (base' := w.heap.size + 1) (by simp)
  have BB := bel_then (bel_new (bel_new (Below.refl w.heap.size w) _) _) hb2
  exact bodyPost_ret (v := .agg #[.slice A newS.refs.length c, .slice B newS.last.length e]) (by simp [results, Try.f35, go_sem, y0, y1]) rfl (SPost.mk rfl rfl (((p2.set (p := ⟨w.heap.size, 0, none⟩) (Nat.lt_succ_self _) _).set (p := ⟨w.heap.size, 1, none⟩) (Nat.lt_succ_self _) _).base (Nat.le_succ _)) ((BB.setCell (p := ⟨w.heap.size, 0, none⟩) (Nat.le_refl _) _).setCell (p := ⟨w.heap.size, 1, none⟩) (Nat.le_refl _) _))

set_option maxRecDepth 100000 in
set_option maxHeartbeats 2000000 in
theorem impl_ok (A B : Option Addr) (c e : Nat) (s : Sp) (w : World) (hn : s.refs.length ≤ 1048576) (hm : s.last.length ≤ 1048576) (hA : SpAt w A B s) :
    Calls Try.prog 86 #[.agg #[.slice A s.refs.length c, .slice B s.last.length e]] w fun r w' => r = .returned (.bool (okS s)) ∧ Below w.heap.size w w' := by
  have hW := hA.below (bel_new (Below.refl w.heap.size w) (.cells #[.slice A s.refs.length c, .slice B s.last.length e] 25))
  by_cases hs : SpOk s
  · have hU := uses_yes A B c e s _ hs hW
    rw [okS_yes hs]
    obtain ⟨n, hn'⟩ : ∃ n, n = s.refs.length := ⟨_, rfl⟩
    obtain ⟨m, hm'⟩ : ∃ m, m = s.last.length := ⟨_, rfl⟩
    rw [← hn', ← hm'] at hU ⊢
    clear hn' hm' hn hm hs hA hW
    go_enter Try.func86, Try.ntmps86
    go_wp2_with (go_at_call 103; refine hU.mono ?_; rintro r w2 ⟨b, hb, rfl, hM, hb2⟩)
    go_ret
    exact ⟨rfl, bel_then (bel_new (Below.refl _ _) _) hb2⟩
  · have hU := uses_no A B c e s _ hn hm hs hW
    rw [okS_no hs]
    obtain ⟨n, hn'⟩ : ∃ n, n = s.refs.length := ⟨_, rfl⟩
    obtain ⟨m, hm'⟩ : ∃ m, m = s.last.length := ⟨_, rfl⟩
    rw [← hn', ← hm'] at hU ⊢
    clear hn' hm' hn hm hs hA hW
    go_enter Try.func86, Try.ntmps86
    go_wp2_with (go_at_call 103; refine hU.mono ?_; rintro r w2 ⟨rfl, hb2⟩)
    go_ret
    exact ⟨rfl, bel_then (bel_new (Below.refl _ _) _) hb2⟩

set_option maxRecDepth 100000 in
set_option maxHeartbeats 2000000 in
theorem impl_room (A B : Option Addr) (c e : Nat) (s : Sp) (w : World) (hn : s.refs.length ≤ 1048576) (hm : s.last.length ≤ 1048576) (hA : SpAt w A B s) :
    Calls Try.prog 72 #[.agg #[.slice A s.refs.length c, .slice B s.last.length e]] w fun r w' => r = .returned (.int .i64 (roomS s)) ∧ Below w.heap.size w w' := by
  have hW := hA.below (bel_new (Below.refl w.heap.size w) (.cells #[.slice A s.refs.length c, .slice B s.last.length e] 25))
  by_cases hs : SpOk s
  · have hU := uses_yes A B c e s _ hs hW
    have hroom : roomS s = 56 - (cntU (usOf s) : Int) := by simp [roomS, hs]
    rw [hroom]
    have hl : cntU (usOf s) ≤ 64 := by have := cnt_le (usOf s); rw [usOf_len hs.1 hs.2.1] at this; exact this
    obtain ⟨n, hn'⟩ : ∃ n, n = s.refs.length := ⟨_, rfl⟩
    obtain ⟨m, hm'⟩ : ∃ m, m = s.last.length := ⟨_, rfl⟩
    obtain ⟨U, hUU⟩ : ∃ U, U = usOf s := ⟨_, rfl⟩
    rw [← hUU] at hU hl ⊢
    rw [← hn', ← hm'] at hU ⊢
    clear hn' hm' hn hm hs hA hW hroom hUU
    go_enter Try.func72, Try.ntmps72
    go_wp2_with (first | (go_at_call 103; refine hU.mono ?_; rintro r w2 ⟨b, hb, rfl, hM, hb2⟩) | (at_len; refine wpList_ulen _ uty rfl _ rfl rfl hM ?_))
    go_ret
    exact ⟨rfl, bel_then (bel_new (Below.refl _ _) _) hb2⟩
  · have hU := uses_no A B c e s _ hn hm hs hW
    have hroom : roomS s = -1 := by simp [roomS, hs]
    rw [hroom]
    obtain ⟨n, hn'⟩ : ∃ n, n = s.refs.length := ⟨_, rfl⟩
    obtain ⟨m, hm'⟩ : ∃ m, m = s.last.length := ⟨_, rfl⟩
    rw [← hn', ← hm'] at hU ⊢
    clear hn' hm' hn hm hs hA hW hroom
    go_enter Try.func72, Try.ntmps72
    go_wp2_with (go_at_call 103; refine hU.mono ?_; rintro r w2 ⟨rfl, hb2⟩)
    go_ret
    exact ⟨rfl, bel_then (bel_new (Below.refl _ _) _) hb2⟩

set_option maxRecDepth 100000 in
set_option maxHeartbeats 2000000 in
theorem take_map (b : Nat) (U : Us) (n t : Int) (w : World) (hU : UMap w Try.prog 3 b U) (h0 : 0 ≤ n) (h1 : n < 64) (hx0 : 0 ≤ (useAt U n).1) (hx1 : (useAt U n).1 ≤ 1048576) :
    Calls Try.prog 116 #[.map (some b), .int .i64 n, .int .i64 t] w fun r w' => r = .returned (.tuple #[]) ∧ UMap w' Try.prog 3 b (takeU U n t) ∧ w.grownBy w' (some b) := by
  unfold takeU
  obtain ⟨x, hx⟩ : ∃ x, x = (useAt U n).1 := ⟨_, rfl⟩
  obtain ⟨y, hy⟩ : ∃ y, y = (useAt U n).2 := ⟨_, rfl⟩
  rw [← hx] at hx0 hx1
  rw [← hx, ← hy]
  have hl := fun w (h : UMap w Try.prog 3 b U) => h.look uty (n := n) (WalkArith.wf_i64 (by omega))
  simp only [← hx, ← hy] at hl
  have hl0 := hl _ hU
  have hG : ∀ z, (z = y ∧ t ≤ y) ∨ (z = t ∧ y < t) → Calls Try.prog 116 #[.map (some b), .int .i64 n, .int .i64 t] w fun r w' => r = .returned (.tuple #[]) ∧ UMap w' Try.prog 3 b (U.set n.toNat (x + 1, z)) ∧ w.grownBy w' (some b) := by
    intro z hz
    have hne : (x + 1, z) ≠ (0, 0) := fun e => by
      have := congrArg Prod.fst e
      simp only at this
      omega
    have HNE := Lib.hid hne
    clear hne hx hy hl
    rcases hz with ⟨rfl, hz⟩ | ⟨rfl, hz⟩
    · go_enter Try.func116, Try.ntmps116
      go_wp2_with (at_mapUpdate; refine wpList_uput _ uty rfl _ _ _ rfl rfl (hU.below (bel_new (Below.refl _ _) _)) _ (x + 1, _) rfl rfl h0 h1 HNE.out ?_; intro w2 hM hg)
      go_wp2_with fail
      go_end0
      exact ⟨rfl, hM, grown_trans (below_grown (bel_new (Below.refl _ _) _) _) hg⟩
    · have hz2 : ¬ z ≤ y := by omega
      go_enter Try.func116, Try.ntmps116
      go_wp2_with (at_mapUpdate; refine wpList_uput _ uty rfl _ _ _ rfl rfl (hU.below (bel_new (Below.refl _ _) _)) _ (x + 1, _) rfl rfl h0 h1 HNE.out ?_; intro w2 hM hg)
      go_wp2_with fail
      go_end0
      exact ⟨rfl, hM, grown_trans (below_grown (bel_new (Below.refl _ _) _) _) hg⟩
  exact hG _ (by omega)

set_option maxRecDepth 100000 in
set_option maxHeartbeats 2000000 in
theorem give_map (b : Nat) (U : Us) (n : Int) (w : World) (hU : UMap w Try.prog 3 b U) (h0 : 0 ≤ n) (h1 : n < 64) (hx0 : 1 ≤ (useAt U n).1) (hx1 : (useAt U n).1 ≤ (useAt U n).2) (hx2 : (useAt U n).2 ≤ 1048576) :
    Calls Try.prog 104 #[.map (some b), .int .i64 n] w fun r w' => r = .returned (.tuple #[]) ∧ UMap w' Try.prog 3 b (giveU U n) ∧ w.grownBy w' (some b) := by
  unfold giveU
  obtain ⟨x, hx⟩ : ∃ x, x = (useAt U n).1 := ⟨_, rfl⟩
  obtain ⟨y, hy⟩ : ∃ y, y = (useAt U n).2 := ⟨_, rfl⟩
  rw [← hx] at hx0
  rw [← hx, ← hy] at hx1
  rw [← hy] at hx2
  rw [← hx, ← hy]
  have hl := fun w (h : UMap w Try.prog 3 b U) => h.look uty (n := n) (WalkArith.wf_i64 (by omega))
  simp only [← hx, ← hy] at hl
  have hl0 := hl _ hU
  clear hx hy hl
  by_cases h : x = 1
  · subst h
    rw [if_pos rfl]
    go_enter Try.func104, Try.ntmps104
    go_wp2_with (at_delete; refine wpList_udel _ uty rfl _ _ rfl rfl (hU.below (bel_new (Below.refl _ _) _)) _ rfl h0 h1 ?_; intro w2 hM hg)
    exact bodyPost_ret (v := .tuple #[]) (by simp [results, Try.f104, go_sem]) rfl ⟨rfl, hM, grown_trans (below_grown (bel_new (Below.refl _ _) _) _) hg⟩
  · rw [if_neg h]
    have hq : (x == 1) = false := by simpa using h
    have hne : (x - 1, y) ≠ (0, 0) := fun e => by
      have := congrArg Prod.fst e
      simp only at this
      omega
    have HNE := Lib.hid hne
    clear hne h
    go_enter Try.func104, Try.ntmps104
    go_wp2_with (at_mapUpdate; refine wpList_uput _ uty rfl _ _ _ rfl rfl (hU.below (bel_new (Below.refl _ _) _)) _ (x - 1, y) rfl rfl h0 h1 HNE.out ?_; intro w2 hM hg)
    go_wp2_with fail
    go_end0
    exact ⟨rfl, hM, grown_trans (below_grown (bel_new (Below.refl _ _) _) _) hg⟩
end Go.Proofs.Ytmnamclndpfjnaa
