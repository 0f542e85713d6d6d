/-
  Stores as lists: when one is valid, and what each function makes of one. Pure.
-/
import Derived.Test.YtmnamclndpfjnaaSp
namespace Go.Proofs.Ytmnamclndpfjnaa

def inB (n lo hi : Int) : Bool := decide (lo ≤ n ∧ n ≤ hi)
theorem inB_yes {n lo hi : Int} (h : lo ≤ n ∧ n ≤ hi) : inB n lo hi = true := by simp [inB, h]
theorem inB_no {n lo hi : Int} (h : ¬ (lo ≤ n ∧ n ≤ hi)) : inB n lo hi = false := by simp only [inB, decide_eq_false_iff_not]; exact h
def same (a b c d e a' b' c' d' e' : Int) : Bool := a == a' && b == b' && c == c' && d == d' && e == e'
def isHole (a b c d e : Int) : Bool := same a b c d e 0 0 0 0 0
def isOk (a b c d e : Int) : Bool := isHole a b c d e || (inB a 8 63 && inB b 1 900 && inB c 1 128 && inB d 0 99460728 && inB e 0 2)
structure P5 where
  a : Int
  b : Int
  c : Int
  d : Int
  e : Int
def P5.zero : P5 := ⟨0, 0, 0, 0, 0⟩
def P5.hole (p : P5) : Bool := isHole p.a p.b p.c p.d p.e
def P5.ok (p : P5) : Bool := isOk p.a p.b p.c p.d p.e
theorem inB_iff {n lo hi : Int} : inB n lo hi = true ↔ lo ≤ n ∧ n ≤ hi := by simp [inB]
theorem P5.hole_zero {p : P5} (h : p.hole = true) : p.a = 0 ∧ p.b = 0 := by
  unfold P5.hole isHole same at h
  simp only [Bool.and_eq_true, beq_iff_eq] at h
  omega
theorem P5.ok_bounds {p : P5} (h : p.ok = true) (hh : p.hole = false) : (8 ≤ p.a ∧ p.a ≤ 63) ∧ (1 ≤ p.b ∧ p.b ≤ 900) ∧ (1 ≤ p.c ∧ p.c ≤ 128) ∧ (0 ≤ p.d ∧ p.d ≤ 99460728) ∧ 0 ≤ p.e ∧ p.e ≤ 2 := by
  unfold P5.hole at hh
  unfold P5.ok isOk at h
  rw [hh] at h
  simp only [Bool.false_or, Bool.and_eq_true, inB_iff] at h
  omega
theorem P5.ok_row {p : P5} (h : p.ok = true) : 0 ≤ p.a ∧ p.a ≤ 63 := by
  cases hh : p.hole with
  | true => have := P5.hole_zero hh; omega
  | false => have := P5.ok_bounds h hh; omega

/-- A store. -/
structure St where
  rows : List ByteArray
  sp : Sp
  txg : Int
  gone : List P5
  keep : Int
  dead : List P5
  same : Bool
def b0 : ByteArray := ⟨#[]⟩
def newSt (b : Bool) : St := ⟨List.replicate 64 b0, newS, 1, [], 0, [], b⟩
def noSt : St := ⟨[], noS, 0, [], 0, [], false⟩
/-- How many pointers of a list lead to a row. -/
def cntAt (L : List P5) (n : Int) : Nat := (L.filter fun p => p.a == n).length
theorem cntAt_nil (n : Int) : cntAt [] n = 0 := rfl
theorem cntAt_snoc (L : List P5) (p : P5) (n : Int) : cntAt (L ++ [p]) n = cntAt L n + if p.a = n then 1 else 0 := by
  unfold cntAt
  rw [List.filter_append, List.length_append]
  by_cases h : p.a = n <;> simp [List.filter_cons, h]
theorem cntAt_le (L : List P5) (n : Int) : cntAt L n ≤ L.length := List.length_filter_le _ _
/-- A pointer may be one of those that are given up, of which some are told already. -/
def okAt (R : List Int) (pre : List P5) (top : Int) (p : P5) : Prop := p.ok = true ∧ p.b ≤ top ∧ ((cntAt pre p.a : Nat) : Int) < R.getD p.a.toNat 0
instance (R : List Int) (pre : List P5) (top : Int) (p : P5) : Decidable (okAt R pre top p) := by unfold okAt; infer_instance
/-- .. the first k of a list. -/
def okTo (R : List Int) (pre L : List P5) (top : Int) (k : Nat) : Prop := ∀ j, j < k → okAt R (pre ++ L.take j) top (L.getD j P5.zero)
def TakeOk (R : List Int) (pre L : List P5) (top : Int) : Prop := ∀ j, j < L.length → okAt R (pre ++ L.take j) top (L.getD j P5.zero)
instance (R : List Int) (pre L : List P5) (top : Int) : Decidable (TakeOk R pre L top) := by unfold TakeOk; infer_instance
def takeB (R : List Int) (pre L : List P5) (top : Int) : Bool := decide (TakeOk R pre L top)
/-- A row of texts fits its use. -/
def rowFit (x : ByteArray) (u : Int × Int) (txg : Int) : Prop := x.size ≤ 128 ∧ (x.size = 0 ↔ u.1 = 0) ∧ u.2 ≤ txg
instance (x : ByteArray) (u : Int × Int) (txg : Int) : Decidable (rowFit x u txg) := by unfold rowFit; infer_instance
def RowsOk (s : St) : Prop := ∀ i, i < 64 → rowFit (s.rows.getD i b0) (s.sp.refs.getD i 0, s.sp.last.getD i 0) s.txg
instance (s : St) : Decidable (RowsOk s) := by unfold RowsOk; infer_instance
structure StOk (s : St) : Prop where
  len : s.rows.length = 64
  sp : SpOk s.sp
  txg : 1 ≤ s.txg ∧ s.txg ≤ 900
  keep : 0 ≤ s.keep ∧ s.keep ≤ s.txg - 1
  rows : RowsOk s
  gone : TakeOk s.sp.refs [] s.gone (s.txg - 1)
  dead : TakeOk s.sp.refs s.gone s.dead s.keep
instance (s : St) : Decidable (StOk s) := decidable_of_iff (s.rows.length = 64 ∧ SpOk s.sp ∧ (1 ≤ s.txg ∧ s.txg ≤ 900) ∧ (0 ≤ s.keep ∧ s.keep ≤ s.txg - 1) ∧ RowsOk s ∧ TakeOk s.sp.refs [] s.gone (s.txg - 1) ∧ TakeOk s.sp.refs s.gone s.dead s.keep)
  ⟨fun ⟨a, b, c, d, e, f, g⟩ => ⟨a, b, c, d, e, f, g⟩, fun ⟨a, b, c, d, e, f, g⟩ => ⟨a, b, c, d, e, f, g⟩⟩
def okSt (s : St) : Bool := decide (StOk s)
theorem okSt_yes {s : St} (h : StOk s) : okSt s = true := by simp [okSt, h]
theorem okSt_no {s : St} (h : ¬ StOk s) : okSt s = false := by simp [okSt, h]
theorem StOk.ref_bd {s : St} (h : StOk s) (i : Nat) (hi : i < 64) : 0 ≤ s.sp.refs.getD i 0 ∧ s.sp.refs.getD i 0 ≤ 900 := by
  have := h.sp.2.2 i hi
  rw [usOf_at h.sp.1 h.sp.2.1 i hi] at this
  unfold rowOk at this
  simp only at this
  omega
end Go.Proofs.Ytmnamclndpfjnaa
