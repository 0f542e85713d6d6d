/-
  The program's way of taking a reference, and of giving one back.
-/
import Derived.Test.YtmnamclndpfjnaaImA
namespace Go.Proofs.Ytmnamclndpfjnaa
open Go.RowKit

theorem UMap.look2 {w : World} {b : Nat} {U : Us} (h : UMap w Try.prog 3 b U) {n x y : Int} (hu : useAt U n = (x, y)) (hw : (Lit.int .i64 n).wf = true) :
    (Instr.lookup 88 (.map (some b)) (.int .i64 n) false).run Try.prog w = .ok (.agg #[.int .i64 x, .int .i64 y]) w := by
  have := h.look uty hw
  rw [hu] at this
  exact this
theorem two_box (w : World) (A B : Option Addr) (n c m e : Nat) : B2 ((w.alloc (.cells #[.slice A n c, .slice B m e] 25)).alloc (.cells #[.slice none 0 0, .slice none 0 0] 25)) (w.heap.size + 1) 25 (.slice none 0 0) (.slice none 0 0) := by
  have := B2.new (w.alloc (.cells #[.slice A n c, .slice B m e] 25)) 25 (.slice none 0 0) (.slice none 0 0)
  rwa [World.size_alloc] at this

theorem fld_last (x y : Int) (w : World) : (Instr.field 113 (.agg #[.int .i64 x, .int .i64 y]) 1).run Try.prog w = .ok (.int .i64 y) w := by kernel_rfl

set_option maxRecDepth 100000 in
set_option maxHeartbeats 4000000 in
theorem impl_take (A B : Option Addr) (c e : Nat) (s : Sp) (n t : Int) (w : World) (hwn : (Lit.int .i64 n).wf = true) (hn : s.refs.length ≤ 1048576) (hm : s.last.length ≤ 1048576) (hA : SpAt w A B s) :
    Calls Try.prog 99 #[.agg #[.slice A s.refs.length c, .slice B s.last.length e], .int .i64 n, .int .i64 t] w (SPost2 (takeS s n t).1 (takeS s n t).2 w) := by
  have BB := bel_new (bel_new (Below.refl w.heap.size w) (.cells #[.slice A s.refs.length c, .slice B s.last.length e] 25)) (.cells #[.slice none 0 0, .slice none 0 0] 25)
  have b0 := two_box w A B s.refs.length c s.last.length e
  have hW := hA.below BB
  have hnone := fun W => noS_own W (w.heap.size + 1)
  by_cases hs : SpOk s
  · have hU := uses_yes A B c e s _ hs hW
    have hrow := fun w => i_row n w
    obtain ⟨x, y, hu⟩ : ∃ x y, useAt (usOf s) n = (x, y) := ⟨_, _, rfl⟩
    have hin := fun w => i_in t (y + 1) 900 w
    have huo := use_ok hs (n := n)
    rw [hu] at huo
    have hy0 : 0 ≤ y ∧ y ≤ 900 ∧ 0 ≤ x ∧ x ≤ 900 := by
      rcases huo with h | ⟨_, _, h1, h2, h3⟩
      · cases h; omega
      · simp only at h1 h2 h3; omega
    obtain ⟨hy0, hy1, hx0, hx1⟩ := hy0
    have hT : takeS s n t = if (8 ≤ n ∧ n ≤ 63) ∧ (y + 1 ≤ t ∧ t ≤ 900) then (spOf (takeU (usOf s) n t), true) else (noS, false) := by
      unfold takeS
      rw [hu]
      simp only [hs, true_and]
      congr 1
      rw [eq_iff_iff]
      constructor
      · rintro ⟨a, b, c, d⟩; exact ⟨⟨a, b⟩, by omega, d⟩
      · rintro ⟨⟨a, b⟩, c, d⟩; exact ⟨a, b, by omega, d⟩
    have hUl := usOf_len hs.1 hs.2.1
    obtain ⟨U, hUU⟩ : ∃ U, U = usOf s := ⟨_, rfl⟩
    rw [hT]
    rw [← hUU] at hU hu hUl ⊢
    obtain ⟨n1, hn'⟩ : ∃ n, n = s.refs.length := ⟨_, rfl⟩
    obtain ⟨m1, hm'⟩ : ∃ m, m = s.last.length := ⟨_, rfl⟩
    rw [← hn', ← hm'] at hU BB b0 ⊢
    have HU := Lib.hid hu
    have HL := Lib.hid hUl
    clear hn' hm' hn hm hs hA hW hUU hu huo hT hUl
    have hle := Nat.le_refl w.heap.size
    have hfl := fld_last x y
    by_cases h1 : 8 ≤ n ∧ n ≤ 63
    · rw [inB_yes h1] at hrow
      by_cases h2 : y + 1 ≤ t ∧ t ≤ 900
      · rw [inB_yes h2] at hin
        rw [if_pos ⟨h1, h2⟩]
        have h1' := Lib.hid h1
        clear h1 h2
        go_enter Try.func99, Try.ntmps99
        go_wp2_with (first
          | (go_at_call 103; refine hU.mono ?_; rintro r w2 ⟨b, hb, rfl, hM, hb2⟩; have hl := hM.look2 HU.out hwn; have b1 := b0.below hb2; have B1 := bel_then BB hb2; have hbl := hM.lt; rw [World.size_alloc, World.size_alloc] at hb)
          | (go_at_call 91; refine (hrow _).mono ?_; rintro r w' ⟨rfl, rfl⟩)
          | (go_at_call 63; refine (hin _).mono ?_; rintro r w' ⟨rfl, rfl⟩)
          | (go_at_call 116; refine (take_map _ _ _ _ _ hM (by have := h1'.out; omega) (by have := h1'.out; omega) (by rw [HU.out]; exact hx0) (by rw [HU.out]; simp only; omega)).mono ?_; rintro r w3 ⟨rfl, hM3, hg3⟩; have b3 := b1.grown hg3 (by simp; omega); have B3 := B1.grown hg3 B1.size (fun k e => by cases e; omega); clear hl)
          | (go_at_call 78; refine (impl_space _ _ _ hM3).mono ?_; rintro r w4 ⟨A4, c4, B4, e4, rfl, o4, hb4⟩; have b4 := b3.below hb4; have B4' := bel_then B3 hb4; have s4 : w.heap.size + 1 + 1 ≤ w3.heap.size := (by have := b3.lt; omega); obtain ⟨⟨y0, y1⟩, f0, f1⟩ := b4.cells; have hl4 := b4.lt))
        have p4 := (o4.base (base' := w.heap.size + 1 + 1) s4)
        exact bodyPost_ret (v := .tuple #[.agg #[.slice A4 (spOf (takeU U n t)).refs.length c4, .slice B4 (spOf (takeU U n t)).last.length e4], .bool true]) (by simp [results, Try.f99, go_sem, y0, y1]) rfl (SPost.mk2 rfl rfl (((p4.set (p := ⟨w.heap.size + 1, 0, none⟩) (Nat.lt_succ_self _) _).set (p := ⟨w.heap.size + 1, 1, none⟩) (Nat.lt_succ_self _) _).base (by omega)) ((B4'.setCell (p := ⟨w.heap.size + 1, 0, none⟩) (Nat.le_succ _) _).setCell (p := ⟨w.heap.size + 1, 1, none⟩) (Nat.le_succ _) _))
      · rw [inB_no h2] at hin
        rw [if_neg (fun h => h2 h.2)]
        clear h1 h2
        go_enter Try.func99, Try.ntmps99
        go_wp2_with (first
          | (go_at_call 103; refine hU.mono ?_; rintro r w2 ⟨b, hb, rfl, hM, hb2⟩; have hl := hM.look2 HU.out hwn; obtain ⟨⟨y0, y1⟩, f0, f1⟩ := (b0.below hb2).cells; have hl2 := (b0.below hb2).lt)
          | (go_at_call 91; refine (hrow _).mono ?_; rintro r w' ⟨rfl, rfl⟩)
          | (go_at_call 63; refine (hin _).mono ?_; rintro r w' ⟨rfl, rfl⟩))
        exact bodyPost_ret (v := .tuple #[.agg #[.slice none 0 0, .slice none 0 0], .bool false]) (by simp [results, Try.f99, go_sem, y0, y1]) rfl (SPost.mk2 rfl rfl (noS_own _ _) (((bel_then BB hb2).setCell (p := ⟨w.heap.size + 1, 0, none⟩) (Nat.le_succ _) _).setCell (p := ⟨w.heap.size + 1, 1, none⟩) (Nat.le_succ _) _))
    · rw [inB_no h1] at hrow
      rw [if_neg (fun h => h1 h.1)]
      clear h1
      go_enter Try.func99, Try.ntmps99
      go_wp2_with (first
        | (go_at_call 103; refine hU.mono ?_; rintro r w2 ⟨b, hb, rfl, hM, hb2⟩; obtain ⟨⟨y0, y1⟩, f0, f1⟩ := (b0.below hb2).cells; have hl2 := (b0.below hb2).lt)
        | (go_at_call 91; refine (hrow _).mono ?_; rintro r w' ⟨rfl, rfl⟩))
      exact bodyPost_ret (v := .tuple #[.agg #[.slice none 0 0, .slice none 0 0], .bool false]) (by simp [results, Try.f99, go_sem, y0, y1]) rfl (SPost.mk2 rfl rfl (noS_own _ _) (((bel_then BB hb2).setCell (p := ⟨w.heap.size + 1, 0, none⟩) (Nat.le_succ _) _).setCell (p := ⟨w.heap.size + 1, 1, none⟩) (Nat.le_succ _) _))
  · have hU := uses_no A B c e s _ hn hm hs hW
    have hT : takeS s n t = (noS, false) := by unfold takeS; rw [if_neg (fun h => hs h.1)]
    rw [hT]
    obtain ⟨n1, hn'⟩ : ∃ n, n = s.refs.length := ⟨_, rfl⟩
    obtain ⟨m1, hm'⟩ : ∃ m, m = s.last.length := ⟨_, rfl⟩
    rw [← hn', ← hm'] at hU BB b0 ⊢
    clear hn' hm' hn hm hs hA hW hT
    go_enter Try.func99, Try.ntmps99
    go_wp2_with (go_at_call 103; refine hU.mono ?_; rintro r w2 ⟨rfl, hb2⟩; obtain ⟨⟨y0, y1⟩, f0, f1⟩ := (b0.below hb2).cells; have hl2 := (b0.below hb2).lt)
    exact bodyPost_ret (v := .tuple #[.agg #[.slice none 0 0, .slice none 0 0], .bool false]) (by simp [results, Try.f99, go_sem, y0, y1]) rfl (SPost.mk2 rfl rfl (noS_own _ _) (((bel_then BB hb2).setCell (p := ⟨w.heap.size + 1, 0, none⟩) (Nat.le_succ _) _).setCell (p := ⟨w.heap.size + 1, 1, none⟩) (Nat.le_succ _) _))

set_option maxRecDepth 100000 in
set_option maxHeartbeats 4000000 in
theorem impl_give (A B : Option Addr) (c e : Nat) (s : Sp) (n : Int) (w : World) (hwn : (Lit.int .i64 n).wf = true) (hn : s.refs.length ≤ 1048576) (hm : s.last.length ≤ 1048576) (hA : SpAt w A B s) :
    Calls Try.prog 101 #[.agg #[.slice A s.refs.length c, .slice B s.last.length e], .int .i64 n] w (SPost2 (giveS s n).1 (giveS s n).2 w) := by
  have BB := bel_new (bel_new (Below.refl w.heap.size w) (.cells #[.slice A s.refs.length c, .slice B s.last.length e] 25)) (.cells #[.slice none 0 0, .slice none 0 0] 25)
  have b0 := two_box w A B s.refs.length c s.last.length e
  have hW := hA.below BB
  by_cases hs : SpOk s
  · have hU := uses_yes A B c e s _ hs hW
    obtain ⟨x, y, hu⟩ : ∃ x y, useAt (usOf s) n = (x, y) := ⟨_, _, rfl⟩
    have hF := fun w => i_free x y w
    have huo := use_ok hs (n := n)
    rw [hu] at huo
    have hT : giveS s n = if (x, y) ≠ (0, 0) then (spOf (giveU (usOf s) n), true) else (noS, false) := by
      unfold giveS
      rw [hu]
      simp only [hs, true_and]
    have hUl := usOf_len hs.1 hs.2.1
    obtain ⟨U, hUU⟩ : ∃ U, U = usOf s := ⟨_, rfl⟩
    rw [hT]
    rw [← hUU] at hU hu hUl ⊢
    obtain ⟨n1, hn'⟩ : ∃ n, n = s.refs.length := ⟨_, rfl⟩
    obtain ⟨m1, hm'⟩ : ∃ m, m = s.last.length := ⟨_, rfl⟩
    rw [← hn', ← hm'] at hU BB b0 ⊢
    have HU := Lib.hid hu
    have HL := Lib.hid hUl
    clear hn' hm' hn hm hs hA hW hUU hu hT hUl
    have hle := Nat.le_refl w.heap.size
    by_cases hz : (x, y) = (0, 0)
    · rw [free_yes hz] at hF
      rw [if_neg (fun h => h hz)]
      clear huo hz
      go_enter Try.func101, Try.ntmps101
      go_wp2_with (first
        | (go_at_call 103; refine hU.mono ?_; rintro r w2 ⟨b, hb, rfl, hM, hb2⟩; have hl := hM.look2 HU.out hwn; obtain ⟨⟨y0, y1⟩, f0, f1⟩ := (b0.below hb2).cells; have hl2 := (b0.below hb2).lt)
        | (go_at_call 117; refine (hF _).mono ?_; rintro r w' ⟨rfl, rfl⟩))
      exact bodyPost_ret (v := .tuple #[.agg #[.slice none 0 0, .slice none 0 0], .bool false]) (by simp [results, Try.f101, go_sem, y0, y1, hl2, size_set]) rfl (SPost.mk2 rfl rfl (noS_own _ _) (bel_new (((bel_then BB hb2).setCell (p := ⟨w.heap.size + 1, 0, none⟩) (Nat.le_succ _) _).setCell (p := ⟨w.heap.size + 1, 1, none⟩) (Nat.le_succ _) _) _))
    · rw [free_no hz] at hF
      rw [if_pos hz]
      rcases huo with h | huo
      · exact absurd h hz
      have HO := Lib.hid huo
      clear hz huo
      go_enter Try.func101, Try.ntmps101
      go_wp2_with (first
        | (go_at_call 103; refine hU.mono ?_; rintro r w2 ⟨b, hb, rfl, hM, hb2⟩; have hl := hM.look2 HU.out hwn; have b1 := (b0.below hb2).alloc (.cells #[.int .i64 x, .int .i64 y] 113); have B1 := bel_new (bel_then BB hb2) (.cells #[.int .i64 x, .int .i64 y] 113); have hbl := hM.lt; rw [World.size_alloc, World.size_alloc] at hb; have hM2 := hM.below (bel_new (Below.refl _ _) (.cells #[.int .i64 x, .int .i64 y] 113)))
        | (go_at_call 117; refine (hF _).mono ?_; rintro r w' ⟨rfl, rfl⟩)
        | (go_at_call 104; refine (give_map _ _ _ _ hM2 (by have := HO.out; omega) (by have := HO.out; omega) (by rw [HU.out]; exact HO.out.2.2.1) (by rw [HU.out]; exact HO.out.2.2.2.1) (by rw [HU.out]; have := HO.out; simp only at this ⊢; omega)).mono ?_; rintro r w3 ⟨rfl, hM3, hg3⟩; have b3 := b1.grown hg3 (by simp; omega); have B3 := B1.grown hg3 B1.size (fun k e => by cases e; omega); clear hl)
        | (go_at_call 78; refine (impl_space _ _ _ hM3).mono ?_; rintro r w4 ⟨A4, c4, B4, e4, rfl, o4, hb4⟩; have b4 := b3.below hb4; have B4' := bel_then B3 hb4; have s4 : w.heap.size + 1 + 1 ≤ w3.heap.size := (by have := b3.lt; omega); obtain ⟨⟨y0, y1⟩, f0, f1⟩ := b4.cells; have hl4 := b4.lt))
      have p4 := (o4.base (base' := w.heap.size + 1 + 1) s4)
      exact bodyPost_ret (v := .tuple #[.agg #[.slice A4 (spOf (giveU U n)).refs.length c4, .slice B4 (spOf (giveU U n)).last.length e4], .bool true]) (by simp [results, Try.f101, go_sem, y0, y1]) rfl (SPost.mk2 rfl rfl (((p4.set (p := ⟨w.heap.size + 1, 0, none⟩) (Nat.lt_succ_self _) _).set (p := ⟨w.heap.size + 1, 1, none⟩) (Nat.lt_succ_self _) _).base (by omega)) ((B4'.setCell (p := ⟨w.heap.size + 1, 0, none⟩) (Nat.le_succ _) _).setCell (p := ⟨w.heap.size + 1, 1, none⟩) (Nat.le_succ _) _))
  · have hU := uses_no A B c e s _ hn hm hs hW
    have hT : giveS s n = (noS, false) := by unfold giveS; rw [if_neg (fun h => hs h.1)]
    rw [hT]
    obtain ⟨n1, hn'⟩ : ∃ n, n = s.refs.length := ⟨_, rfl⟩
    obtain ⟨m1, hm'⟩ : ∃ m, m = s.last.length := ⟨_, rfl⟩
    rw [← hn', ← hm'] at hU BB b0 ⊢
    clear hn' hm' hn hm hs hA hW hT
    go_enter Try.func101, Try.ntmps101
    go_wp2_with (go_at_call 103; refine hU.mono ?_; rintro r w2 ⟨rfl, hb2⟩; obtain ⟨⟨y0, y1⟩, f0, f1⟩ := (b0.below hb2).cells; have hl2 := (b0.below hb2).lt)
    exact bodyPost_ret (v := .tuple #[.agg #[.slice none 0 0, .slice none 0 0], .bool false]) (by simp [results, Try.f101, go_sem, y0, y1]) rfl (SPost.mk2 rfl rfl (noS_own _ _) (((bel_then BB hb2).setCell (p := ⟨w.heap.size + 1, 0, none⟩) (Nat.le_succ _) _).setCell (p := ⟨w.heap.size + 1, 1, none⟩) (Nat.le_succ _) _))
end Go.Proofs.Ytmnamclndpfjnaa
