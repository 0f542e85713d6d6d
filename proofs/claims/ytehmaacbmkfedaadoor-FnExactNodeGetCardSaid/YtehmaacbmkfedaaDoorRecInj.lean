/-
  The text of a record tells the record: unlike records have unlike texts, and what is in front of a text of a record is its first fields.
-/
import Derived.Test.YtehmaacbmkfedaaDoorPutS
namespace Go.Proofs.YtehmaacbmkfedaaDoor
open Go.RowKit

theorem digs_split : ∀ (l m x y : List UInt8), digs l → digs m → l ++ 58 :: x = m ++ 58 :: y → l = m ∧ x = y
  | [], [], _, _, _, _, h => by simpa using h
  | [], c :: m, x, y, _, hm, h => by
    simp only [List.nil_append, List.cons_append, List.cons.injEq] at h
    have hc := hm c (by simp)
    rw [← h.1] at hc
    exact absurd hc (by decide)
  | c :: l, [], x, y, hl, _, h => by
    simp only [List.nil_append, List.cons_append, List.cons.injEq] at h
    have hc := hl c (by simp)
    rw [h.1] at hc
    exact absurd hc (by decide)
  | c :: l, d :: m, x, y, hl, hm, h => by
    simp only [List.cons_append, List.cons.injEq] at h
    obtain ⟨h1, h2⟩ := digs_split l m x y (fun a ha => hl a (by simp [ha])) (fun a ha => hm a (by simp [ha])) h.2
    exact ⟨by rw [h.1, h1], h2⟩

theorem encF_app {s t : ByteArray} {x y : List UInt8} (h : encF s ++ x = encF t ++ y) : s = t ∧ x = y := by
  unfold encF at h
  simp only [List.append_assoc, List.singleton_append, List.cons_append, List.nil_append] at h
  obtain ⟨h1, h2⟩ := digs_split _ _ _ _ (dec_digs s.size).1 (dec_digs t.size).1 h
  have hs : s.size = t.size := by rw [← (dec_digs s.size).2.1, ← (dec_digs t.size).2.1, h1]
  have hl : s.data.toList.length = t.data.toList.length := by rw [Array.length_toList, Array.length_toList]; exact hs
  obtain ⟨h3, h4⟩ := List.append_inj h2 hl
  exact ⟨bytes_inj h3, h4⟩
theorem encF_ne (s : ByteArray) : encF s ≠ [] := by simp [encF]
theorem recL_cons (s : ByteArray) (ss : List ByteArray) : recL (s :: ss) = encF s ++ recL ss := rfl
theorem recL_nil : recL [] = [] := rfl
theorem recL_inj : ∀ {ss tt : List ByteArray}, recL ss = recL tt → ss = tt
  | [], [], _ => rfl
  | [], t :: tt, h => by
    rw [recL_nil, recL_cons] at h
    exact absurd (List.append_eq_nil_iff.1 h.symm).1 (encF_ne t)
  | s :: ss, [], h => by
    rw [recL_nil, recL_cons] at h
    exact absurd (List.append_eq_nil_iff.1 h).1 (encF_ne s)
  | s :: ss, t :: tt, h => by
    rw [recL_cons, recL_cons] at h
    obtain ⟨h1, h2⟩ := encF_app h
    rw [h1, recL_inj h2]

/-- Fields in front: what is read from the left is the record's beginning. -/
theorem recL_front : ∀ (ss tt : List ByteArray) (r : List UInt8), recL tt = recL ss ++ r → ∃ uu, tt = ss ++ uu ∧ r = recL uu
  | [], tt, r, h => ⟨tt, rfl, by rw [h]; rfl⟩
  | s :: ss, [], r, h => by
    rw [recL_nil, recL_cons, List.append_assoc] at h
    exact absurd (List.append_eq_nil_iff.1 h.symm).1 (encF_ne s)
  | s :: ss, t :: tt, r, h => by
    rw [recL_cons, recL_cons, List.append_assoc] at h
    obtain ⟨h1, h2⟩ := encF_app h
    obtain ⟨uu, h3, h4⟩ := recL_front ss tt r h2
    exact ⟨uu, by rw [h1, h3]; rfl, h4⟩

end Go.Proofs.YtehmaacbmkfedaaDoor
