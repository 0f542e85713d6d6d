/-
  The drawing of columns, some spoilt.
-/
import Derived.Test.YtohfadgbmlfcmaaWP30
import Derived.Test.YtohfadgbmlfcmaaSpl
namespace Go.Proofs.Ytohfadgbmlfcmaa
open Go.RowKit

theorem IsRd.under {w0 w w' : World} {B : Nat} {A : Option Addr} {m cap p : Nat} (h : IsRd w0 w B A m cap p) (hb : Below w.heap.size w w') : IsRd w0 w' B A m cap p :=
  ⟨(hb.block B h.lt).trans h.blk, h.bts, h.old, bel_then h.bel hb, h.few⟩
theorem IsRd.past {w0 w w' : World} {B g : Nat} {A : Option Addr} {m cap p : Nat} (h : IsRd w0 w B A m cap p) (hg : w.grownBy w' (some g)) (hne : g ≠ B) (hge : w0.heap.size ≤ g) : IsRd w0 w' B A m cap p :=
  ⟨(hg.block B h.lt (fun e => hne (by injection e with e; exact e.symm))).trans h.blk, h.bts, h.old, h.bel.grown hg (by have := h.bel.size; omega) (fun k e => by injection e with e; omega), h.few⟩
theorem own_kept {w w' : World} {base n cap g B : Nat} {xs : List Value} (h : w.ownsRow base 9 1 (.slice (some ⟨g, 0, none⟩) n cap) n xs) (hg : w.grownBy w' (some B)) (hne : g ≠ B) : w'.ownsRow base 9 1 (.slice (some ⟨g, 0, none⟩) n cap) n xs :=
  h.kept hg (.inr (fun e => hne (by injection e)))
/-- Three columns of the call's own, beside the reader. -/
structure Cols (w0 w : World) (B : Nat) (A : Option Addr) (m cap p base g c : Nat) (x0 x1 x2 : ByteArray) : Prop where
  rd : IsRd w0 w B A m cap p
  own : w.ownsRow base 9 1 (.slice (some ⟨g, 0, none⟩) 3 c) 3 (strCells [x0, x1, x2])
  ne : g ≠ B
  ge : w0.heap.size ≤ g
  sz : x0.size ≤ 300 ∧ x1.size ≤ 300 ∧ x2.size ≤ 300
theorem Cols.grown {w0 w w' : World} {B : Nat} {A : Option Addr} {m cap p p' base g c : Nat} {x0 x1 x2 : ByteArray} (h : Cols w0 w B A m cap p base g c x0 x1 x2) (hg : w.grownBy w' (some B)) (hr : IsRd w0 w' B A m cap p') : Cols w0 w' B A m cap p' base g c x0 x1 x2 :=
  ⟨hr, own_kept h.own hg h.ne, h.ne, h.ge, h.sz⟩
theorem Cols.three {w0 w : World} {B : Nat} {A : Option Addr} {m cap p base g c : Nat} {x0 x1 x2 : ByteArray} (h : Cols w0 w B A m cap p base g c x0 x1 x2) : Three w g 0 x0 x1 x2 := by
  obtain ⟨b, off, e, ht⟩ := Three.of (row_lies h.own)
  cases e
  exact ht
/-- A column is put anew. -/
theorem Cols.set {w0 w : World} {B : Nat} {A : Option Addr} {m cap p base g c : Nat} {x0 x1 x2 : ByteArray} (h : Cols w0 w B A m cap p base g c x0 x1 x2) (k : Nat) (t y0 y1 y2 : ByteArray) (he : (strCells [x0, x1, x2]).set k (.string t) = strCells [y0, y1, y2]) :
    (w.setCell ⟨g, k, none⟩ (.string t)).ownsRow base 9 1 (.slice (some ⟨g, 0, none⟩) 3 c) 3 (strCells [y0, y1, y2]) ∧ IsRd w0 (w.setCell ⟨g, k, none⟩ (.string t)) B A m cap p := by
  have hs := h.own.stored k (.string t)
  rw [he] at hs
  exact ⟨hs.1, h.rd.past hs.2 h.ne h.ge⟩
/-- Columns and a number are drawn. -/
def DrawnW (w : World) (r : Ending) (w' : World) : Prop :=
  ∃ (A : Option Addr) (c : Nat) (ss : List ByteArray) (size : Int), r = .returned (.tuple #[.slice A ss.length c, .int .i64 size]) ∧ Lies w' A (strCells ss) ∧ ss.length ≤ maxLen ∧ (∀ s ∈ ss, s.size ≤ maxLen) ∧ Below w.heap.size w w'
theorem DrawnW.of {w w' : World} {base g c : Nat} {x0 x1 x2 : ByteArray} (size : Int) (ho : w'.ownsRow base 9 1 (.slice (some ⟨g, 0, none⟩) 3 c) 3 (strCells [x0, x1, x2])) (hs : x0.size ≤ 1000 ∧ x1.size ≤ 1000 ∧ x2.size ≤ 1000) (hb : Below w.heap.size w w') :
    DrawnW w (.returned (.tuple #[.slice (some ⟨g, 0, none⟩) 3 c, .int .i64 size])) w' := by
  refine ⟨some ⟨g, 0, none⟩, c, [x0, x1, x2], size, rfl, row_lies ho, by show 3 ≤ maxLen; unfold maxLen; omega, ?_, hb⟩
  intro s h
  obtain ⟨h0, h1, h2⟩ := hs
  simp only [List.mem_cons, List.not_mem_nil, or_false] at h
  unfold maxLen
  rcases h with rfl | rfl | rfl <;> omega

set_option maxRecDepth 100000 in
set_option maxHeartbeats 8000000 in
theorem draw_swhole (A : Option Addr) (n cap : Nat) (w : World) (hn : n ≤ cap) (hA : BytesAt w A n) : Calls Try.prog 23 #[.slice A n cap] w (DrawnW w) := by
  have hO := open_rd A n cap w hn hA
  go_enter Try.func23, Try.ntmps23
  go_wp2_with (go_at_call 35; refine hO.mono ?_; rintro r w1 ⟨A1, m1, c1, B1, rfl, h1⟩; refine Hid.out ?_)
  refine Lib.hid ?_
  have hB := block_gr w w1 B1 A1 m1 c1 0 h1 (by omega)
  clear hO
  go_wp2_with (go_at_call 36; refine hB.mono ?_; rintro r w2 ⟨t, p', rfl, ht, h2, hp, g2⟩; refine Hid.out ?_)
  refine Lib.hid ?_
  have htm : t.size ≤ maxLen := by unfold maxLen; omega
  have hS := spec_cut t w2 htm
  have hB2 := h2.lt
  have hz2 := h2.bel.size
  clear hB g2 h1
  by_cases hb : blockB t = true
  · have hs := (blockB_iff t).1 hb
    have hcd : cutD t = texts3 t.data.toList := if_pos hb
    rw [hcd, hb] at hS
    have z0 : (strOf (colA t.data.toList)).size ≤ 300 := by rw [strOf_size, colA_len, toL_len]; unfold half; omega
    have z1 : (strOf (colB t.data.toList)).size ≤ 300 := by rw [strOf_size, colB_len, toL_len]; omega
    have z2 : (strOf (colP t.data.toList)).size ≤ 300 := by rw [strOf_size, colP_len, toL_len]; unfold half; omega
    unfold texts3 at hS
    obtain ⟨x0, hx0⟩ : ∃ x, x = strOf (colA t.data.toList) := ⟨_, rfl⟩
    obtain ⟨x1, hx1⟩ : ∃ x, x = strOf (colB t.data.toList) := ⟨_, rfl⟩
    obtain ⟨x2, hx2⟩ : ∃ x, x = strOf (colP t.data.toList) := ⟨_, rfl⟩
    rw [← hx0, ← hx1, ← hx2] at hS
    rw [← hx0] at z0
    rw [← hx1] at z1
    rw [← hx2] at z2
    have HT := Lib.hid ht
    clear hs hcd hx0 hx1 hx2 hb htm
    go_wp2_with (go_at_call 9; refine hS.mono ?_; rintro r W ⟨A3, c3, rfl, o3, b3⟩; refine Hid.out ?_)
    refine Lib.hid ?_
    obtain ⟨g, rfl⟩ := own_addr o3 (by show 0 < 3; omega)
    have hgl := (o3.lt g rfl).1
    have hC : Cols w W B1 A1 m1 c1 p' w2.heap.size g c3 x0 x1 x2 := ⟨h2.under b3, o3, by omega, by omega, z0, z1, z2⟩
    clear hS o3 b3 h2 z0 z1 z2
    have hK := pick_rd w W B1 A1 m1 c1 p' 2 hC.rd (by omega) (by omega) (by omega)
    go_wp2_with (go_at_call 37; refine hK.mono ?_; rintro r w5 ⟨y, y0, y1, rfl, r5, g5⟩; refine Hid.out ?_)
    refine Lib.hid ?_
    have hC := hC.grown g5 r5
    clear hK g5 r5
    by_cases hy : y = 0
    · subst hy
      have hK := pick_rd w w5 B1 A1 m1 c1 _ 3 hC.rd (by omega) (by omega) (by omega)
      go_wp2_with (go_at_call 37; refine hK.mono ?_; rintro r w6 ⟨k, k0, k1, rfl, r6, g6⟩; refine Hid.out ?_)
      refine Lib.hid ?_
      have hC := hC.grown g6 r6
      clear hK g6 r6
      obtain ⟨_, m0, m1', m2⟩ := hC.three
      have sz := hC.sz
      have hsp := fun s hs => spoil_gr w w6 B1 A1 m1 c1 _ s hC.rd (by omega) hs
      rcases (show k = 0 ∨ k = 1 ∨ k = 2 by omega) with rfl | rfl | rfl
      · go_wp2_with (go_at_call 38; refine (hsp x0 (by omega)).mono ?_; rintro r w7 ⟨t7, p7, rfl, ht7, r7, hp7, g7⟩; refine Hid.out ?_)
        refine Lib.hid ?_
        have hC := hC.grown g7 r7
        obtain ⟨_, q0, q1, q2⟩ := hC.three
        have hfz := hC.own.frozenAt 0
        obtain ⟨o8, r8⟩ := hC.set 0 t7 t7 x1 x2 rfl
        clear hsp m0 m1' m2 g7 r7
        go_wp2_with fail
        go_ret2
        exact DrawnW.of _ o8 ⟨by omega, by omega, by omega⟩ r8.bel
      · go_wp2_with (go_at_call 38; refine (hsp x1 (by omega)).mono ?_; rintro r w7 ⟨t7, p7, rfl, ht7, r7, hp7, g7⟩; refine Hid.out ?_)
        refine Lib.hid ?_
        have hC := hC.grown g7 r7
        obtain ⟨_, q0, q1, q2⟩ := hC.three
        have hfz := hC.own.frozenAt 1
        obtain ⟨o8, r8⟩ := hC.set 1 t7 x0 t7 x2 rfl
        clear hsp m0 m1' m2 g7 r7
        go_wp2_with fail
        go_ret2
        exact DrawnW.of _ o8 ⟨by omega, by omega, by omega⟩ r8.bel
      · go_wp2_with (go_at_call 38; refine (hsp x2 (by omega)).mono ?_; rintro r w7 ⟨t7, p7, rfl, ht7, r7, hp7, g7⟩; refine Hid.out ?_)
        refine Lib.hid ?_
        have hC := hC.grown g7 r7
        obtain ⟨_, q0, q1, q2⟩ := hC.three
        have hfz := hC.own.frozenAt 2
        obtain ⟨o8, r8⟩ := hC.set 2 t7 x0 x1 t7 rfl
        clear hsp m0 m1' m2 g7 r7
        go_wp2_with fail
        go_ret2
        exact DrawnW.of _ o8 ⟨by omega, by omega, by omega⟩ r8.bel
    · have hyb : (y == 0) = false := by simpa using hy
      have sz := hC.sz
      clear hy
      go_wp2_with fail
      go_ret2
      exact DrawnW.of _ hC.own ⟨by omega, by omega, by omega⟩ hC.rd.bel
  · have hbf : blockB t = false := by simpa using hb
    have hcd : cutD t = [] := if_neg hb
    rw [hcd, hbf] at hS
    clear hb hbf hcd htm
    go_wp2_with (go_at_call 9; refine hS.mono ?_; rintro r w3 ⟨A3, c3, rfl, o3, b3⟩; refine Hid.out ?_)
    refine Lib.hid ?_
    have h3 := h2.under b3
    have hz3 := b3.size
    obtain ⟨W, hW⟩ : ∃ W, W = w3.alloc (.cells #[.string ⟨#[97]⟩, .string ⟨#[98]⟩, .string ⟨#[99]⟩] 9) := ⟨_, rfl⟩
    have oW : W.ownsRow w3.heap.size 9 1 (.slice (some ⟨w3.heap.size, 0, none⟩) 3 3) 3 (strCells [⟨#[97]⟩, ⟨#[98]⟩, ⟨#[99]⟩]) := by rw [hW]; exact own_new (w := w3) (t := 9) [⟨#[97]⟩, ⟨#[98]⟩, ⟨#[99]⟩] (by show 3 ≤ 1000; omega)
    have hC : Cols w W B1 A1 m1 c1 p' w3.heap.size w3.heap.size 3 ⟨#[97]⟩ ⟨#[98]⟩ ⟨#[99]⟩ := ⟨h3.under (by rw [hW]; exact bel_new (Below.refl _ _) _), oW, by omega, by omega, by decide, by decide, by decide⟩
    clear hS o3 b3 h2 h3 oW
    subst hW
    have hK := pick_rd w _ B1 A1 m1 c1 p' 2 hC.rd (by omega) (by omega) (by omega)
    go_wp2_with (go_at_call 37; refine hK.mono ?_; rintro r w5 ⟨y, y0, y1, rfl, r5, g5⟩; refine Hid.out ?_)
    refine Lib.hid ?_
    have hC := hC.grown g5 r5
    clear hK g5 r5
    by_cases hy : y = 0
    · subst hy
      have hK := pick_rd w w5 B1 A1 m1 c1 _ 3 hC.rd (by omega) (by omega) (by omega)
      go_wp2_with (go_at_call 37; refine hK.mono ?_; rintro r w6 ⟨k, k0, k1, rfl, r6, g6⟩; refine Hid.out ?_)
      refine Lib.hid ?_
      have hC := hC.grown g6 r6
      clear hK g6 r6
      obtain ⟨_, m0, m1', m2⟩ := hC.three
      have sz := hC.sz
      have hsp := fun s hs => spoil_gr w w6 B1 A1 m1 c1 _ s hC.rd (by omega) hs
      rcases (show k = 0 ∨ k = 1 ∨ k = 2 by omega) with rfl | rfl | rfl
      · go_wp2_with (go_at_call 38; refine (hsp ⟨#[97]⟩ (by decide)).mono ?_; rintro r w7 ⟨t7, p7, rfl, ht7, r7, hp7, g7⟩; refine Hid.out ?_)
        refine Lib.hid ?_
        have hC := hC.grown g7 r7
        obtain ⟨_, q0, q1, q2⟩ := hC.three
        have hfz := hC.own.frozenAt 0
        obtain ⟨o8, r8⟩ := hC.set 0 t7 t7 _ _ rfl
        clear hsp m0 m1' m2 g7 r7
        go_wp2_with fail
        go_ret2
        exact DrawnW.of _ o8 ⟨by first | omega | decide, by first | omega | decide, by first | omega | decide⟩ r8.bel
      · go_wp2_with (go_at_call 38; refine (hsp ⟨#[98]⟩ (by decide)).mono ?_; rintro r w7 ⟨t7, p7, rfl, ht7, r7, hp7, g7⟩; refine Hid.out ?_)
        refine Lib.hid ?_
        have hC := hC.grown g7 r7
        obtain ⟨_, q0, q1, q2⟩ := hC.three
        have hfz := hC.own.frozenAt 1
        obtain ⟨o8, r8⟩ := hC.set 1 t7 _ t7 _ rfl
        clear hsp m0 m1' m2 g7 r7
        go_wp2_with fail
        go_ret2
        exact DrawnW.of _ o8 ⟨by first | omega | decide, by first | omega | decide, by first | omega | decide⟩ r8.bel
      · go_wp2_with (go_at_call 38; refine (hsp ⟨#[99]⟩ (by decide)).mono ?_; rintro r w7 ⟨t7, p7, rfl, ht7, r7, hp7, g7⟩; refine Hid.out ?_)
        refine Lib.hid ?_
        have hC := hC.grown g7 r7
        obtain ⟨_, q0, q1, q2⟩ := hC.three
        have hfz := hC.own.frozenAt 2
        obtain ⟨o8, r8⟩ := hC.set 2 t7 _ _ t7 rfl
        clear hsp m0 m1' m2 g7 r7
        go_wp2_with fail
        go_ret2
        exact DrawnW.of _ o8 ⟨by first | omega | decide, by first | omega | decide, by first | omega | decide⟩ r8.bel
    · have hyb : (y == 0) = false := by simpa using hy
      have sz := hC.sz
      clear hy
      go_wp2_with fail
      go_ret2
      exact DrawnW.of _ hC.own ⟨by first | omega | decide, by first | omega | decide, by first | omega | decide⟩ hC.rd.bel
end Go.Proofs.Ytohfadgbmlfcmaa
