/-
  Space as lists of numbers: whether it is valid, what is free, one reference more, one less, and what a list of references comes to.
-/

namespace Go.Proofs.Ytmnamclndpfjnaa

/-- Space: how many references each row has, and when the last of them was made. -/
structure Sp where
  refs : List Int
  last : List Int
/-- What is used of the rows, row by row. -/
abbrev Us := List (Int × Int)

def rowOk (i : Nat) (u : Int × Int) : Prop := (u.1 = 0 ∧ u.2 = 0) ∨ (8 ≤ i ∧ 1 ≤ u.1 ∧ u.1 ≤ u.2 ∧ u.2 ≤ 900)
instance (i : Nat) (u : Int × Int) : Decidable (rowOk i u) := by unfold rowOk; infer_instance
def usOf (s : Sp) : Us := s.refs.zip s.last
def spOf (U : Us) : Sp := ⟨U.map Prod.fst, U.map Prod.snd⟩
/-- The first k rows may be used so. -/
def UsOk (U : Us) (k : Nat) : Prop := ∀ i, i < k → rowOk i (U.getD i (0, 0))
def SpOk (s : Sp) : Prop := s.refs.length = 64 ∧ s.last.length = 64 ∧ ∀ i, i < 64 → rowOk i ((usOf s).getD i (0, 0))
instance (s : Sp) : Decidable (SpOk s) := by unfold SpOk; infer_instance
def okS (s : Sp) : Bool := decide (SpOk s)
theorem okS_yes {s : Sp} (h : SpOk s) : okS s = true := by simp [okS, h]
theorem okS_no {s : Sp} (h : ¬ SpOk s) : okS s = false := by simp [okS, h]
theorem usOf_len {s : Sp} (h1 : s.refs.length = 64) (h2 : s.last.length = 64) : (usOf s).length = 64 := by simp [usOf, h1, h2]
theorem usOf_at {s : Sp} {n : Nat} (h1 : s.refs.length = n) (h2 : s.last.length = n) (i : Nat) (hi : i < n) : (usOf s).getD i (0, 0) = (s.refs.getD i 0, s.last.getD i 0) := by
  rw [List.getD_eq_getElem?_getD, List.getD_eq_getElem?_getD, List.getD_eq_getElem?_getD]
  rw [List.getElem?_eq_getElem (show i < (usOf s).length by simp [usOf, h1, h2]; exact hi), List.getElem?_eq_getElem (by omega : i < s.refs.length), List.getElem?_eq_getElem (by omega : i < s.last.length)]
  simp [usOf]
theorem spOf_usOf {s : Sp} (h : s.refs.length = s.last.length) : spOf (usOf s) = s := by
  cases s with
  | mk r l =>
    unfold spOf usOf
    simp only at h ⊢
    rw [List.map_fst_zip (by omega), List.map_snd_zip (by omega)]
theorem usOf_spOf (U : Us) : usOf (spOf U) = U := by
  unfold usOf spOf
  simp only
  induction U with
  | nil => rfl
  | cons a U ih => simp [ih]

/-- What is used of a row, by whatever number. -/
def useAt (U : Us) (n : Int) : Int × Int := if 0 ≤ n then U.getD n.toNat (0, 0) else (0, 0)
theorem useAt_nat (U : Us) (k : Nat) : useAt U (k : Int) = U.getD k (0, 0) := by simp [useAt]
def cntU (U : Us) : Nat := (U.filter fun u => decide (u ≠ (0, 0))).length
def zeroU : Us := List.replicate 64 (0, 0)
theorem zeroU_len : zeroU.length = 64 := by simp [zeroU]
theorem zeroU_at (i : Nat) : zeroU.getD i (0, 0) = (0, 0) := by
  rw [List.getD_eq_getElem?_getD]
  unfold zeroU
  rw [List.getElem?_replicate]
  split <;> rfl
theorem useAt_zero (n : Int) : useAt zeroU n = (0, 0) := by
  unfold useAt
  split
  · exact zeroU_at _
  · rfl
theorem cnt_zero : cntU zeroU = 0 := by
  unfold cntU zeroU
  rw [List.filter_replicate]
  rfl
theorem cnt_cons (a : Int × Int) (U : Us) : cntU (a :: U) = (if a = (0, 0) then 0 else 1) + cntU U := by
  unfold cntU
  by_cases h : a = (0, 0)
  · simp [h]
  · simp [h]; omega
theorem cnt_set : ∀ (U : Us) (i : Nat) (u : Int × Int), i < U.length →
    cntU (U.set i u) + (if U.getD i (0, 0) = (0, 0) then 0 else 1) = cntU U + (if u = (0, 0) then 0 else 1)
  | a :: U, 0, u, _ => by
    rw [List.set_cons_zero, cnt_cons, cnt_cons, List.getD_cons_zero]
    omega
  | a :: U, i + 1, u, h => by
    have ih := cnt_set U i u (by simpa using h)
    rw [List.set_cons_succ, cnt_cons, cnt_cons, List.getD_cons_succ]
    omega
theorem useAt_set_same {U : Us} {n : Int} {u : Int × Int} (h0 : 0 ≤ n) (h : n.toNat < U.length) : useAt (U.set n.toNat u) n = u := by
  unfold useAt
  rw [if_pos h0, List.getD_eq_getElem?_getD, List.getElem?_set_self h]
  rfl
theorem useAt_set_other {U : Us} {n m : Int} {u : Int × Int} (h0 : 0 ≤ n) (hne : m ≠ n) : useAt (U.set n.toNat u) m = useAt U m := by
  unfold useAt
  split
  · rw [List.getD_eq_getElem?_getD, List.getElem?_set_ne (by omega), ← List.getD_eq_getElem?_getD]
  · rfl
theorem spOf_set (U : Us) (i : Nat) (u : Int × Int) : spOf (U.set i u) = ⟨(spOf U).refs.set i u.1, (spOf U).last.set i u.2⟩ := by
  unfold spOf
  simp [List.map_set]

/-- A new one, and one that nothing told. -/
def newS : Sp := ⟨List.replicate 64 0, List.replicate 64 0⟩
def noS : Sp := ⟨[], []⟩
theorem newS_of : spOf zeroU = newS := by simp [spOf, zeroU, newS]
def roomS (s : Sp) : Int := if SpOk s then 56 - (cntU (usOf s) : Int) else -1
/-- One more, made then. -/
def takeU (U : Us) (n t : Int) : Us := U.set n.toNat ((useAt U n).1 + 1, max (useAt U n).2 t)
def takeS (s : Sp) (n t : Int) : Sp × Bool :=
  if SpOk s ∧ 8 ≤ n ∧ n ≤ 63 ∧ (useAt (usOf s) n).2 < t ∧ t ≤ 900 then (spOf (takeU (usOf s) n t), true) else (noS, false)
/-- One less. -/
def giveU (U : Us) (n : Int) : Us := U.set n.toNat (if (useAt U n).1 = 1 then (0, 0) else ((useAt U n).1 - 1, (useAt U n).2))
def giveS (s : Sp) (n : Int) : Sp × Bool := if SpOk s ∧ useAt (usOf s) n ≠ (0, 0) then (spOf (giveU (usOf s) n), true) else (noS, false)
/-- The first of the next k rows, from one on and round about, that is free and not on a list. -/
def rowAt (f : Int) (i : Nat) : Int := 8 + (f - 8 + i) % 56
def seek (U : Us) (but : List Int) (f : Int) : Nat → Nat → Int
  | _, 0 => -1
  | i, k + 1 => if useAt U (rowAt f i) = (0, 0) ∧ rowAt f i ∉ but then rowAt f i else seek U but f (i + 1) k
def fromOf (f : Int) : Int := if 8 ≤ f ∧ f ≤ 63 then f else 8
def findS (s : Sp) (f : Int) (but : List Int) : Int := if SpOk s then seek (usOf s) but (fromOf f) 0 56 else -1
theorem fromOf_in (f : Int) : 8 ≤ fromOf f ∧ fromOf f ≤ 63 := by unfold fromOf; split <;> omega
theorem rowAt_in (f : Int) (i : Nat) : 8 ≤ rowAt f i ∧ rowAt f i ≤ 63 := by unfold rowAt; omega

/-- What a valid space has of a row. -/
theorem use_ok {s : Sp} (h : SpOk s) {n : Int} : (useAt (usOf s) n = (0, 0)) ∨ (8 ≤ n ∧ n ≤ 63 ∧ 1 ≤ (useAt (usOf s) n).1 ∧ (useAt (usOf s) n).1 ≤ (useAt (usOf s) n).2 ∧ (useAt (usOf s) n).2 ≤ 900) := by
  unfold useAt
  split
  · by_cases hn : n.toNat < 64
    · rcases h.2.2 n.toNat hn with ⟨a, b⟩ | ⟨a, b, c, d⟩
      · exact .inl (Prod.ext a b)
      · exact .inr ⟨by omega, by omega, b, c, d⟩
    · left
      rw [List.getD_eq_getElem?_getD, List.getElem?_eq_none (by rw [usOf_len h.1 h.2.1]; omega)]
      rfl
  · exact .inl rfl
end Go.Proofs.Ytmnamclndpfjnaa
