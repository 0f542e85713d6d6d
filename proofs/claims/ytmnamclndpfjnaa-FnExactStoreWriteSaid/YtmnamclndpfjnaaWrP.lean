/-
  What writing a block makes of a store.
-/
import Derived.Test.YtmnamclndpfjnaaNxR
namespace Go.Proofs.Ytmnamclndpfjnaa

/-- The first of the next k rows that has a text already and may get one more reference. -/
def likeK (s : St) (x : ByteArray) : Nat → Nat → Int
  | _, 0 => -1
  | i, k + 1 => if s.rows.getD i b0 = x ∧ s.sp.last.getD i 0 < s.txg then (i : Int) else likeK s x (i + 1) k
def findA (s : St) : Int := seek (usOf s.sp) [] 8 0 56
def rowW (s : St) (x : ByteArray) (lv : Int) : Int := if s.same = true ∧ lv = 0 ∧ 0 ≤ likeK s x 8 56 then likeK s x 8 56 else findA s
def blockB (x : ByteArray) : Prop := 1 ≤ x.size ∧ x.size ≤ 128
instance (x : ByteArray) : Decidable (blockB x) := by unfold blockB; infer_instance
def writeOk (s : St) (x : ByteArray) (lv : Int) : Prop := StOk s ∧ blockB x ∧ (0 ≤ lv ∧ lv ≤ 2) ∧ 0 ≤ rowW s x lv
instance (s : St) (x : ByteArray) (lv : Int) : Decidable (writeOk s x lv) := by unfold writeOk; infer_instance
def putSt (s : St) (n : Nat) (x : ByteArray) : St := { s with rows := s.rows.set n x, sp := ⟨s.sp.refs.set n (s.sp.refs.getD n 0 + 1), s.sp.last.set n s.txg⟩ }
theorem like_hit {s : St} {x : ByteArray} {i k : Nat} (h : s.rows.getD i b0 = x) (h2 : s.sp.last.getD i 0 < s.txg) : likeK s x i (k + 1) = (i : Int) := if_pos ⟨h, h2⟩
theorem like_miss {s : St} {x : ByteArray} {i k : Nat} (h : ¬ (s.rows.getD i b0 = x ∧ s.sp.last.getD i 0 < s.txg)) : likeK s x i (k + 1) = likeK s x (i + 1) k := if_neg h
theorem like_range (s : St) (x : ByteArray) : ∀ k i, likeK s x i k = -1 ∨ ∃ j : Nat, likeK s x i k = (j : Int) ∧ i ≤ j ∧ j < i + k ∧ s.rows.getD j b0 = x ∧ s.sp.last.getD j 0 < s.txg
  | 0, _ => .inl rfl
  | k + 1, i => by
    by_cases h : s.rows.getD i b0 = x ∧ s.sp.last.getD i 0 < s.txg
    · exact .inr ⟨i, if_pos h, by omega, by omega, h.1, h.2⟩
    · rw [like_miss h]
      rcases like_range s x k (i + 1) with h | ⟨j, h1, h2, h3, h4⟩
      · exact .inl h
      · exact .inr ⟨j, h1, by omega, by omega, h4⟩
section
variable {s : St} (h : StOk s)
include h
theorem row_low {x : ByteArray} (hx : 1 ≤ x.size) {i : Nat} (hi : i < 8) : ¬ (s.rows.getD i b0 = x ∧ s.sp.last.getD i 0 < s.txg) := by
  rintro ⟨e, -⟩
  have hr := h.sp.2.2 i (by omega)
  rw [usOf_at h.sp.1 h.sp.2.1 i (by omega)] at hr
  have hf := (h.rows i (by omega)).2.1
  rw [e] at hf
  simp only at hf
  unfold rowOk at hr
  simp only at hr
  omega
/-- None of the rows below the first one for blocks is like it. -/
theorem like_all {x : ByteArray} (hx : 1 ≤ x.size) : likeK s x 0 64 = likeK s x 8 56 := by
  rw [like_miss (row_low h hx (by decide : 0 < 8)), like_miss (row_low h hx (by decide : 1 < 8)), like_miss (row_low h hx (by decide : 2 < 8)), like_miss (row_low h hx (by decide : 3 < 8)), like_miss (row_low h hx (by decide : 4 < 8)), like_miss (row_low h hx (by decide : 5 < 8)), like_miss (row_low h hx (by decide : 6 < 8)), like_miss (row_low h hx (by decide : 7 < 8))]
theorem refs_le {i : Nat} (hi : i < 64) : 0 ≤ s.sp.refs.getD i 0 ∧ s.sp.refs.getD i 0 ≤ s.sp.last.getD i 0 ∧ s.sp.last.getD i 0 ≤ 900 := by
  have hr := h.sp.2.2 i hi
  rw [usOf_at h.sp.1 h.sp.2.1 i hi] at hr
  unfold rowOk at hr
  simp only at hr
  omega
end
theorem seek_range (U : Us) : ∀ k i, seek U [] 8 i k = -1 ∨ ∃ j : Nat, seek U [] 8 i k = (j : Int) ∧ 8 ≤ j ∧ j < 64 ∧ useAt U (j : Int) = (0, 0)
  | 0, _ => .inl rfl
  | k + 1, i => by
    have hr := rowAt_in 8 i
    unfold seek
    split
    · rename_i hc
      refine .inr ⟨(rowAt 8 i).toNat, by omega, by omega, by omega, ?_⟩
      rw [Int.toNat_of_nonneg (by omega)]
      exact hc.1
    · exact seek_range U k (i + 1)
section
variable {s : St} (h : StOk s)
include h
/-- The row that is written: none, or one that may get one more reference in the open group. -/
theorem row_range (x : ByteArray) (lv : Int) : rowW s x lv = -1 ∨ ∃ n : Nat, rowW s x lv = (n : Int) ∧ 8 ≤ n ∧ n < 64 ∧ s.sp.last.getD n 0 < s.txg := by
  unfold rowW
  split
  · rcases like_range s x 56 8 with h1 | ⟨j, h1, h2, h3, h4, h5⟩
    · exact .inl h1
    · exact .inr ⟨j, h1, h2, by omega, h5⟩
  · unfold findA
    rcases seek_range (usOf s.sp) 56 0 with h1 | ⟨j, h1, h2, h3, h4⟩
    · exact .inl h1
    · refine .inr ⟨j, h1, h2, h3, ?_⟩
      rw [useAt_nat, usOf_at h.sp.1 h.sp.2.1 j h3] at h4
      injection h4 with h5 h6
      have := h.txg
      omega
theorem find_eq : findS s.sp 8 [] = findA s := by
  unfold findS findA
  rw [if_pos h.sp]
  rfl
theorem take_eq {n : Nat} (h8 : 8 ≤ n) (hn : n < 64) (hl : s.sp.last.getD n 0 < s.txg) : takeS s.sp (n : Int) s.txg = (⟨s.sp.refs.set n (s.sp.refs.getD n 0 + 1), s.sp.last.set n s.txg⟩, true) := by
  have hu : useAt (usOf s.sp) (n : Int) = (s.sp.refs.getD n 0, s.sp.last.getD n 0) := by rw [useAt_nat, usOf_at h.sp.1 h.sp.2.1 n hn]
  have ht := h.txg
  unfold takeS
  rw [if_pos ⟨h.sp, by omega, by omega, by rw [hu]; exact hl, by omega⟩, spOf_take h.sp (n : Int) s.txg hu hl, Int.toNat_natCast]
end
end Go.Proofs.Ytmnamclndpfjnaa
