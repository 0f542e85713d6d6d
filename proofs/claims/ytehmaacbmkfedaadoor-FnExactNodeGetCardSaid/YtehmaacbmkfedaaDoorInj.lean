/-
  The text of a pointer tells the pointer; FnPtrApart, FnPtrOk and FnPtrHole, their walks.
-/
import Derived.Test.YtehmaacbmkfedaaDoorPut
namespace Go.Proofs.YtehmaacbmkfedaaDoor
open Go.RowKit

theorem dot_split : ∀ (l m x y : List UInt8), digs l → digs m → l ++ 46 :: x = m ++ 46 :: y → l = m ∧ x = y
  | [], [], _, _, _, _, h => by simpa using h
  | [], c :: m, x, y, _, hm, h => by
    simp only [List.nil_append, List.cons_append, List.cons.injEq] at h
    have hc := hm c (by simp)
    rw [← h.1] at hc
    exact absurd hc (by decide)
  | c :: l, [], x, y, hl, _, h => by
    simp only [List.nil_append, List.cons_append, List.cons.injEq] at h
    have hc := hl c (by simp)
    rw [h.1] at hc
    exact absurd hc (by decide)
  | c :: l, d :: m, x, y, hl, hm, h => by
    simp only [List.cons_append, List.cons.injEq] at h
    obtain ⟨h1, h2⟩ := dot_split l m x y (fun a ha => hl a (by simp [ha])) (fun a ha => hm a (by simp [ha])) h.2
    exact ⟨by rw [h.1, h1], h2⟩
theorem joinB_flat (p q r s t : List UInt8) : joinB p q r s t = p ++ 46 :: (q ++ 46 :: (r ++ 46 :: (s ++ 46 :: t))) := by simp [joinB]
theorem joinB_inj {p q r s t p' q' r' s' t' : List UInt8} (hp : digs p) (hq : digs q) (hr : digs r) (hs : digs s) (hp' : digs p') (hq' : digs q') (hr' : digs r') (hs' : digs s') (h : joinB p q r s t = joinB p' q' r' s' t') :
    p = p' ∧ q = q' ∧ r = r' ∧ s = s' ∧ t = t' := by
  rw [joinB_flat, joinB_flat] at h
  obtain ⟨h1, h⟩ := dot_split _ _ _ _ hp hp' h
  obtain ⟨h2, h⟩ := dot_split _ _ _ _ hq hq' h
  obtain ⟨h3, h⟩ := dot_split _ _ _ _ hr hr' h
  obtain ⟨h4, h⟩ := dot_split _ _ _ _ hs hs' h
  exact ⟨h1, h2, h3, h4, h⟩
theorem dec_inj {x y : Int} (hx : 0 ≤ x) (hy : 0 ≤ y) (h : Lib.decDigits x.toNat = Lib.decDigits y.toNat) : x = y := by
  have h1 := (dec_digs x.toNat).2.1
  have h2 := (dec_digs y.toNat).2.1
  rw [h, h2] at h1
  omega

/-- What is written of a valid pointer: the sign of a hole, or five numbers. -/
theorem putT_ok {a b c d e : Int} (h : isOk a b c d e = true) :
    (isHole a b c d e = true ∧ putT a b c d e = [45]) ∨ (isHole a b c d e = false ∧ inAll a b c d e ∧ putT a b c d e = joinB (Lib.decDigits a.toNat) (Lib.decDigits b.toNat) (Lib.decDigits c.toNat) (Lib.decDigits d.toNat) (Lib.decDigits e.toNat)) := by
  by_cases hh : isHole a b c d e = true
  · exact .inl ⟨hh, by unfold putT; rw [if_pos h, if_pos hh]⟩
  · have hi : inAll a b c d e := by rw [isOk_inAll] at h; simpa [hh] using h
    refine .inr ⟨by simpa using hh, hi, ?_⟩
    unfold putT
    obtain ⟨h1, h2, h3, h4, h5⟩ := hi
    rw [if_pos h, if_neg hh, num_is a (by omega) (by omega), num_is b (by omega) (by omega), num_is c (by omega) (by omega), num_is d (by omega) (by omega), num_is e (by omega) (by omega)]
theorem putT_no {a b c d e : Int} (h : isOk a b c d e = false) : putT a b c d e = [] := by unfold putT; rw [if_neg (by rw [h]; exact Bool.false_ne_true)]
theorem putT_ne {a b c d e : Int} (h : isOk a b c d e = true) : putT a b c d e ≠ [] := by
  rcases putT_ok h with ⟨_, h⟩ | ⟨_, _, h⟩ <;> rw [h] <;> simp [joinB]
theorem hole_zero {a b c d e : Int} (h : isHole a b c d e = true) : a = 0 ∧ b = 0 ∧ c = 0 ∧ d = 0 ∧ e = 0 := by
  unfold isHole same at h
  simpa [and_assoc] using h
theorem putT_inj {a b c d e a' b' c' d' e' : Int} (h : isOk a b c d e = true) (ht : putT a b c d e = putT a' b' c' d' e') : same a b c d e a' b' c' d' e' = true := by
  have h' : isOk a' b' c' d' e' = true := by
    cases hk : isOk a' b' c' d' e' with
    | true => rfl
    | false => exact absurd (ht.trans (putT_no hk)) (putT_ne h)
  have hdash : ∀ (p q r s t : List UInt8), digs p → p ≠ [] → [45] ≠ joinB p q r s t := by
    intro p q r s t hp hne e
    cases p with
    | nil => exact hne rfl
    | cons x p =>
      rw [joinB_flat, List.cons_append, List.cons.injEq] at e
      have := hp x (by simp)
      rw [← e.1] at this
      exact absurd this (by decide)
  rcases putT_ok h with ⟨h1, h2⟩ | ⟨_, h1, h2⟩ <;> rcases putT_ok h' with ⟨h3, h4⟩ | ⟨_, h3, h4⟩
  · obtain ⟨rfl, rfl, rfl, rfl, rfl⟩ := hole_zero h1
    obtain ⟨rfl, rfl, rfl, rfl, rfl⟩ := hole_zero h3
    rfl
  · rw [h2, h4] at ht
    exact absurd ht (hdash _ _ _ _ _ (dec_digs _).1 (dec_digs _).2.2)
  · rw [h2, h4] at ht
    exact absurd ht.symm (hdash _ _ _ _ _ (dec_digs _).1 (dec_digs _).2.2)
  · rw [h2, h4] at ht
    obtain ⟨i1, i2, i3, i4, i5⟩ := joinB_inj (dec_digs _).1 (dec_digs _).1 (dec_digs _).1 (dec_digs _).1 (dec_digs _).1 (dec_digs _).1 (dec_digs _).1 (dec_digs _).1 ht
    obtain ⟨p1, p2, p3, p4, p5⟩ := h1
    obtain ⟨q1, q2, q3, q4, q5⟩ := h3
    unfold same
    rw [dec_inj (by omega) (by omega) i1, dec_inj (by omega) (by omega) i2, dec_inj (by omega) (by omega) i3, dec_inj (by omega) (by omega) i4, dec_inj (by omega) (by omega) i5]
    simp

end Go.Proofs.YtehmaacbmkfedaaDoor
