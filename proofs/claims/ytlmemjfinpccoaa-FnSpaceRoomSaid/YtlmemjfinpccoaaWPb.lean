/-
  The walk of FnSpaceRoom.
-/
import Derived.Test.YtlmemjfinpccoaaWPa
namespace Go.Proofs.Ytlmemjfinpccoaa
open Go.RowKit

theorem seek_neg (U : Us) (but : List Int) (f : Int) : ∀ (k i : Nat), seek U but f i k < 0 ↔ ∀ j, j < k → ¬ (useAt U (rowAt f (i + j : Nat)) = (0, 0) ∧ rowAt f (i + j : Nat) ∉ but)
  | 0, i => by simp [seek]
  | k + 1, i => by
    unfold seek
    by_cases h : useAt U (rowAt f i) = (0, 0) ∧ rowAt f i ∉ but
    · rw [if_pos h]
      have := rowAt_in f i
      constructor
      · intro h1; omega
      · intro h1
        exact absurd h (h1 0 (by omega))
    · rw [if_neg h, seek_neg U but f k (i + 1)]
      constructor
      · intro h1 j hj
        match j with
        | 0 => exact h
        | j + 1 =>
          have := h1 j (by omega)
          rw [show i + 1 + j = i + (j + 1) by omega] at this
          exact this
      · intro h1 j hj
        have := h1 (j + 1) (by omega)
        rw [show i + (j + 1) = i + 1 + j by omega] at this
        exact this
theorem cnt_low {s : Sp} (h : SpOk s) : cntU (usOf s) = cntU ((usOf s).drop 8) := by
  have h8 : cntU ((usOf s).take 8) = 0 := by
    unfold cntU
    rw [List.length_eq_zero_iff, List.filter_eq_nil_iff]
    intro u hu
    obtain ⟨i, hi, rfl⟩ := List.getElem_of_mem hu
    have hi8 : i < 8 := by
      rw [List.length_take] at hi
      omega
    have hl := usOf_len h.1 h.2.1
    have := h.2.2 i (by omega)
    rw [List.getD_eq_getElem?_getD, List.getElem?_eq_getElem (by omega : i < (usOf s).length)] at this
    rw [List.getElem_take]
    simp only [Option.getD_some] at this
    rcases this with ⟨a, b⟩ | ⟨a, _⟩
    · simp [Prod.ext_iff, a, b]
    · omega
  have hc : cntU (usOf s) = cntU ((usOf s).take 8) + cntU ((usOf s).drop 8) := by
    unfold cntU
    rw [← List.length_append, ← List.filter_append, List.take_append_drop]
  omega
/-- There is no room where nothing is found, and only there. -/
theorem room_find {s : Sp} (h : SpOk s) : roomS s = 0 ↔ findS s 8 [] < 0 := by
  have hl := usOf_len h.1 h.2.1
  have hd : ((usOf s).drop 8).length = 56 := by rw [List.length_drop]; omega
  have hle := cntU_le ((usOf s).drop 8)
  have e1 : roomS s = 0 ↔ cntU ((usOf s).drop 8) = ((usOf s).drop 8).length := by
    unfold roomS
    rw [if_pos h, cnt_low h]
    omega
  rw [e1]
  unfold findS
  rw [if_pos h, seek_neg]
  unfold cntU
  rw [List.length_filter_eq_length_iff]
  constructor
  · intro h1 j hj h2
    have hr : rowAt (fromOf 8) (0 + j) = ((8 + j : Nat) : Int) := by
      unfold rowAt fromOf
      rw [if_pos (by omega)]
      omega
    rw [hr, useAt_nat, List.getD_eq_getElem?_getD, List.getElem?_eq_getElem (by omega : 8 + j < (usOf s).length)] at h2
    have := h1 (usOf s)[8 + j] (by
      rw [List.mem_drop_iff_getElem]
      exact ⟨j, by omega, by simp only⟩)
    simp only [decide_eq_true_eq] at this
    exact this h2.1
  · intro h1 u hu
    obtain ⟨j, hj, rfl⟩ := List.getElem_of_mem hu
    have hr : rowAt (fromOf 8) (0 + j) = ((8 + j : Nat) : Int) := by
      unfold rowAt fromOf
      rw [if_pos (by omega)]
      omega
    have := h1 j (by omega)
    rw [hr, useAt_nat, List.getD_eq_getElem?_getD, List.getElem?_eq_getElem (by omega : 8 + j < (usOf s).length)] at this
    simp only [List.not_mem_nil, not_false_eq_true, and_true, Option.getD_some] at this
    rw [List.getElem_drop]
    exact decide_eq_true this

set_option maxRecDepth 100000 in
set_option maxHeartbeats 4000000 in
theorem walk_proom (A : Option Addr) (n cap : Nat) (w : World) (hn : n ≤ cap) (hA : BytesAt w A n) : Calls Try.prog 12 #[.slice A n cap] w fun r w' => r = .returned (.bool true) ∧ Below w.heap.size w w' := by
  have hD := draw_room A n cap w hn hA
  by_cases hbig : (1048576 : Int) < (n : Int)
  · go_enter Try.func12, Try.ntmps12
    go_wp2_with fail
    go_ret
    exact ⟨rfl, Below.refl _ _⟩
  clear hA hn
  go_enter Try.func12, Try.ntmps12
  go_wp2_with (go_at_call 46; refine hD.mono ?_; rintro r w1 ⟨A1, c1, E1, e1, d, rfl, hs, hn, hm, hb1⟩; refine Hid.out ?_)
  refine Lib.hid ?_
  have hn : d.refs.length ≤ 1048576 := by omega
  have hm : d.last.length ≤ 1048576 := by omega
  have b1 := B2.new w1 24 (.slice A1 d.refs.length c1) (.slice E1 d.last.length e1)
  have bl : Below w1.heap.size w1 (w1.alloc (.cells #[.slice A1 d.refs.length c1, .slice E1 d.last.length e1] 24)) := (Below.refl _ _).alloc (Nat.le_refl _) _
  have hs := hs.below bl
  have BB := bel_then hb1 bl
  have K := impl_room A1 E1 c1 e1 d _ hn hm hs
  obtain ⟨⟨x0, x1⟩, _⟩ := b1.cells
  clear bl hb1 hD
  go_wp2_with (go_at_call 29; refine K.mono ?_; rintro r w2 ⟨rfl, hb2⟩; refine Hid.out ?_)
  refine Lib.hid ?_
  have BB := bel_then BB hb2
  have b1 := b1.below hb2
  have hs := hs.below hb2
  have K := spec_room A1 E1 c1 e1 d _ hn hm hs
  clear x0 x1 hb2
  obtain ⟨⟨x0, x1⟩, _⟩ := b1.cells
  have hq : (roomS d == roomS d) = true := by simp
  go_wp2_with (go_at_call 28; refine K.mono ?_; rintro r w3 ⟨rfl, hb3⟩; refine Hid.out ?_)
  refine Lib.hid ?_
  have BB := bel_then BB hb3
  have b1 := b1.below hb3
  have hs := hs.below hb3
  clear x0 x1 hb3 K
  obtain ⟨⟨x0, x1⟩, _⟩ := b1.cells
  by_cases hneg : 0 ≤ roomS d
  · have hok : SpOk d := by
      by_cases hok : SpOk d
      · exact hok
      · unfold roomS at hneg
        rw [if_neg hok] at hneg
        omega
    have hL : Lies (w3.alloc (.cells #[] 3)) (some ⟨w3.heap.size, 0, none⟩) (intCells []) := Lies.nil _ _
    have K := impl_find A1 E1 (some ⟨w3.heap.size, 0, none⟩) c1 e1 0 d 8 [] (w3.alloc (.cells #[] 3)) hn hm (by simp) (hs.below (bel_new (Below.refl _ _) _)) hL
    have BB := bel_new BB (.cells #[] 3)
    have hfin : (roomS d == 0) = decide (findS d 8 [] < 0) := by
      rw [Bool.eq_iff_iff]
      simp only [beq_iff_eq, decide_eq_true_eq]
      exact room_find hok
    obtain ⟨v, hv⟩ : ∃ v, v = findS d 8 [] := ⟨_, rfl⟩
    rw [← hv] at K hfin
    clear hv hok
    go_wp2_with (go_at_call 32; refine K.mono ?_; rintro r w4 ⟨rfl, hb4⟩)
    go_ret
    exact ⟨by simp, bel_then BB hb4⟩
  · go_wp2_with fail
    go_ret
    exact ⟨rfl, BB⟩
end Go.Proofs.Ytlmemjfinpccoaa
