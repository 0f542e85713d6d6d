/-
  Stripes as lists: the columns of a block, and what is reckoned from two of them.
-/
import Derived.Test.YtndckncoipkhaaaCtDk
namespace Go.Proofs.Ytndckncoipkhaaa.Cut

def half (n : Nat) : Nat := (n + 1) / 2
theorem half_le (n : Nat) : half n ≤ n := by unfold half; omega
/-- The exclusive or of the first bytes of two texts, so many of them. -/
def mixL (a b : List UInt8) (n : Nat) : List UInt8 := (List.range n).map fun i => a.getD i 0 ^^^ b.getD i 0
theorem mixL_len (a b : List UInt8) (n : Nat) : (mixL a b n).length = n := by simp [mixL]
theorem mixL_next (a b : List UInt8) (n : Nat) : mixL a b (n + 1) = mixL a b n ++ [a.getD n 0 ^^^ b.getD n 0] := by simp [mixL, List.range_succ]
theorem mixL_getD (a b : List UInt8) (n i : Nat) (h : i < n) : (mixL a b n).getD i 0 = a.getD i 0 ^^^ b.getD i 0 := by
  simp [mixL, List.getD_eq_getElem?_getD, h]
theorem mixL_get (a b : List UInt8) (n i : Nat) (h : i < (mixL a b n).length) : (mixL a b n)[i] = a.getD i 0 ^^^ b.getD i 0 := by
  simp [mixL]
theorem xor_back (x y : UInt8) : (x ^^^ y) ^^^ y = x := by rw [UInt8.xor_assoc, UInt8.xor_self, UInt8.xor_zero]
theorem xor_back2 (x y : UInt8) : (x ^^^ y) ^^^ x = y := by rw [UInt8.xor_comm x y, xor_back]
/-- The columns of a text. -/
def colA (l : List UInt8) : List UInt8 := l.take (half l.length)
def colB (l : List UInt8) : List UInt8 := l.drop (half l.length)
def colP (l : List UInt8) : List UInt8 := mixL (colA l) (colB l) (half l.length)
theorem colA_len (l : List UInt8) : (colA l).length = half l.length := by
  have := half_le l.length
  rw [colA, List.length_take]; omega
theorem colB_len (l : List UInt8) : (colB l).length = l.length - half l.length := by rw [colB, List.length_drop]
theorem colP_len (l : List UInt8) : (colP l).length = half l.length := mixL_len _ _ _
theorem cols_app (l : List UInt8) : colA l ++ colB l = l := List.take_append_drop _ _
theorem list_ext_getD {a b : List UInt8} (n : Nat) (ha : a.length = n) (hb : b.length = n) (h : ∀ i, i < n → a.getD i 0 = b.getD i 0) : a = b := by
  apply List.ext_getElem (by omega)
  intro i h1 h2
  have := h i (by omega)
  rw [List.getD_eq_getElem?_getD, List.getD_eq_getElem?_getD, List.getElem?_eq_getElem h1, List.getElem?_eq_getElem h2] at this
  simpa using this
/-- The first column out of the others. -/
theorem mix_first (a b : List UInt8) (h : Nat) (ha : a.length = h) : mixL (mixL a b h) b h = a :=
  list_ext_getD h (mixL_len _ _ _) ha fun i hi => by rw [mixL_getD _ _ _ _ hi, mixL_getD _ _ _ _ hi, xor_back]
/-- The second column out of the others. -/
theorem mix_second (a b : List UInt8) (h k : Nat) (hk : k ≤ h) (hb : b.length = k) : mixL (mixL a b h) a k = b :=
  list_ext_getD k (mixL_len _ _ _) hb fun i hi => by rw [mixL_getD _ _ _ _ hi, mixL_getD _ _ _ _ (by omega), xor_back2]
/-- The text by a way: -1 by the first two columns, 0 without the first, 1 without the second. -/
def fitA (a : List UInt8) (size : Nat) : Prop := a.length = half size
def fitB (b : List UInt8) (size : Nat) : Prop := b.length = size - half size
instance (a : List UInt8) (n : Nat) : Decidable (fitA a n) := by unfold fitA; infer_instance
instance (a : List UInt8) (n : Nat) : Decidable (fitB a n) := by unfold fitB; infer_instance
def joinL (a b p : List UInt8) (size : Nat) (lost : Int) : List UInt8 × Bool :=
  if lost = -1 then (if fitA a size ∧ fitB b size then (a ++ b, true) else ([], false))
  else if lost = 0 then (if fitB b size ∧ fitA p size then (mixL p b (half size) ++ b, true) else ([], false))
  else (if fitA a size ∧ fitA p size then (a ++ mixL p a (size - half size), true) else ([], false))
theorem joinL_size {a b p : List UInt8} {size : Nat} {lost : Int} (h : (joinL a b p size lost).2 = true) : (joinL a b p size lost).1.length = size := by
  have hh := half_le size
  unfold joinL at h ⊢
  unfold fitA fitB at *
  split at h
  · split at h
    · rename_i h1 h2
      rw [if_pos h1, if_pos h2, List.length_append]
      omega
    · cases h
  · split at h
    · split at h
      · rename_i h0 h1 h2
        rw [if_neg h0, if_pos h1, if_pos h2, List.length_append, mixL_len]
        omega
      · cases h
    · split at h
      · rename_i h0 h1 h2
        rw [if_neg h0, if_neg h1, if_pos h2, List.length_append, mixL_len]
        omega
      · cases h
theorem join_cut (l : List UInt8) (lost : Int) : joinL (colA l) (colB l) (colP l) l.length lost = (l, true) := by
  have ha := colA_len l
  have hb := colB_len l
  have hp := colP_len l
  have hh : l.length - half l.length ≤ half l.length := by unfold half; omega
  unfold joinL fitA fitB
  split
  · rw [if_pos ⟨ha, hb⟩, cols_app]
  · split
    · rw [if_pos ⟨hb, hp⟩, colP, mix_first _ _ _ ha, cols_app]
    · rw [if_pos ⟨ha, hp⟩, colP, mix_second _ _ _ _ hh hb, cols_app]
/-- Whether columns are those of some block. -/
def wholeL (a b p : List UInt8) (size : Nat) : Bool := decide (fitA a size ∧ fitB b size ∧ p = mixL a b (half size))
theorem cut_of {a b : List UInt8} {size : Nat} (ha : fitA a size) (hb : fitB b size) : colA (a ++ b) = a ∧ colB (a ++ b) = b ∧ colP (a ++ b) = mixL a b (half size) := by
  have hh := half_le size
  unfold fitA at ha
  unfold fitB at hb
  have hl : (a ++ b).length = size := by rw [List.length_append]; omega
  have h1 : colA (a ++ b) = a := by unfold colA; rw [hl, ← ha, List.take_left']; rfl
  have h2 : colB (a ++ b) = b := by unfold colB; rw [hl, ← ha, List.drop_left']; rfl
  exact ⟨h1, h2, by unfold colP; rw [h1, h2, hl]⟩
end Go.Proofs.Ytndckncoipkhaaa.Cut
