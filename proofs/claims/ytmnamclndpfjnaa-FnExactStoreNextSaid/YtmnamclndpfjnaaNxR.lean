/-
  The rows that are emptied when references are given back.
-/
import Derived.Test.YtmnamclndpfjnaaNxQ
namespace Go.Proofs.Ytmnamclndpfjnaa

def emptTo (R : List Int) (L : List ByteArray) (k : Nat) : List ByteArray := L.mapIdx fun i r => if i < k ∧ R.getD i 0 = 0 then b0 else r
theorem emptTo_len (R : List Int) (L : List ByteArray) (k : Nat) : (emptTo R L k).length = L.length := by simp [emptTo]
theorem emptTo_at (R : List Int) (L : List ByteArray) (k i : Nat) (h : i < (emptTo R L k).length) : (emptTo R L k)[i] = if i < k ∧ R.getD i 0 = 0 then b0 else L[i]'(by rw [emptTo_len] at h; exact h) := by simp only [emptTo, List.getElem_mapIdx]
theorem emptTo_zero (R : List Int) (L : List ByteArray) : emptTo R L 0 = L := by
  refine List.ext_getElem (emptTo_len _ _ _) fun i h1 h2 => ?_
  rw [emptTo_at, if_neg (by omega)]
theorem emptTo_yes {R : List Int} {L : List ByteArray} {k : Nat} (h : R.getD k 0 = 0) : emptTo R L (k + 1) = (emptTo R L k).set k b0 := by
  refine List.ext_getElem (by rw [List.length_set, emptTo_len, emptTo_len]) fun i h1 h2 => ?_
  rw [List.getElem_set, emptTo_at]
  by_cases e : k = i
  · subst e
    rw [if_pos rfl, if_pos ⟨by omega, h⟩]
  · rw [if_neg e, emptTo_at]
    by_cases h3 : i < k
    · by_cases h4 : R.getD i 0 = 0
      · rw [if_pos ⟨by omega, h4⟩, if_pos ⟨h3, h4⟩]
      · rw [if_neg (fun h => h4 h.2), if_neg (fun h => h4 h.2)]
    · rw [if_neg (fun h => by omega), if_neg (fun h => h3 h.1)]
theorem emptTo_no {R : List Int} {L : List ByteArray} {k : Nat} (h : ¬ R.getD k 0 = 0) : emptTo R L (k + 1) = emptTo R L k := by
  refine List.ext_getElem (by rw [emptTo_len, emptTo_len]) fun i h1 h2 => ?_
  rw [emptTo_at, emptTo_at]
  by_cases e : k = i
  · subst e
    rw [if_neg (fun g => h g.2), if_neg (fun g => h g.2)]
  · by_cases h4 : R.getD i 0 = 0
    · by_cases h3 : i < k
      · rw [if_pos ⟨by omega, h4⟩, if_pos ⟨h3, h4⟩]
      · rw [if_neg (fun h => by omega), if_neg (fun h => h3 h.1)]
    · rw [if_neg (fun h => h4 h.2), if_neg (fun h => h4 h.2)]
/-- A store with another space, and without the texts of rows that are free in that. -/
def withSt (s : St) (p : Sp) : St := { s with rows := emptTo p.refs s.rows 64, sp := p }
def nextSt (s : St) : St := { withSt s (spOf (nextU (usOf s.sp) s.gone)) with gone := [], txg := s.txg + 1 }
def nextS (s : St) : St := if StOk s ∧ s.txg < 900 then nextSt s else noSt
def nextB (s : St) : Bool := decide (StOk s ∧ s.txg < 900)
theorem b0_of {b : ByteArray} (h : b.size = 0) : b = b0 := by
  have : b.data = #[] := Array.eq_empty_of_size_eq_zero h
  cases b
  simp only at this
  subst this
  rfl
section
variable {s : St} (h : StOk s)
include h
theorem rows_start : s.rows = emptTo s.sp.refs s.rows 64 := by
  refine List.ext_getElem (by rw [emptTo_len]) fun i h1 h2 => ?_
  rw [emptTo_at]
  by_cases e : i < 64 ∧ s.sp.refs.getD i 0 = 0
  · rw [if_pos e]
    have := (h.rows i e.1).2.1
    simp only at this
    rw [List.getD_eq_getElem?_getD, List.getElem?_eq_getElem h1, Option.getD_some] at this
    exact b0_of (this.2 e.2)
  · rw [if_neg e]
end
theorem rows_step {t : St} {L : List ByteArray} (hr : t.rows = emptTo t.sp.refs L 64) (hl : L.length = 64) (h2 : t.sp.refs.length = 64) {n : Nat} (hn : n < 64) (hx : 1 ≤ t.sp.refs.getD n 0) : (dropSt t n).rows = emptTo (dropSt t n).sp.refs L 64 := by
  refine List.ext_getElem (by rw [drop_rows, hr, emptTo_len, emptTo_len]) fun i h1 h3 => ?_
  have hi : i < 64 := by rw [emptTo_len, hl] at h3; exact h3
  have hg : (dropSt t n).sp.refs.getD i 0 = if i = n then t.sp.refs.getD n 0 - 1 else t.sp.refs.getD i 0 := by
    show (t.sp.refs.set n _).getD i 0 = _
    rw [set_getD _ _ _ _ _ (by omega)]
  rw [emptTo_at, hg]
  by_cases e : i = n
  · subst e
    rw [if_pos rfl]
    by_cases h1 : t.sp.refs.getD i 0 = 1
    · rw [if_pos ⟨hi, by omega⟩]
      simp only [dropSt, h1, if_true, List.getElem_set_self]
    · rw [if_neg (fun g => h1 (by omega))]
      simp only [dropSt, h1, if_false]
      have : t.rows[i]'(by rw [hr, emptTo_len, hl]; exact hi) = (emptTo t.sp.refs L 64)[i]'(by rw [emptTo_len, hl]; exact hi) := by congr 1
      rw [this, emptTo_at, if_neg (fun g => by omega)]
  · rw [if_neg e]
    have : t.rows[i]'(by rw [hr, emptTo_len, hl]; exact hi) = (emptTo t.sp.refs L 64)[i]'(by rw [emptTo_len, hl]; exact hi) := by congr 1
    rw [emptTo_at] at this
    rw [← this]
    simp only [dropSt]
    split
    · rw [List.getElem_set, if_neg (fun g => e g.symm)]
    · rfl
/-- .. and its rows. -/
structure DropR (s : St) (k : Nat) (t : St) : Prop where
  at_ : DropAt s k t
  rows : t.rows = emptTo t.sp.refs s.rows 64
section
variable {s : St} (h : StOk s)
include h
theorem dropR_start : DropR s 0 s := ⟨drop_start h, rows_start h⟩
theorem dropR_step {k : Nat} {t : St} (hk : k < s.gone.length) (d : DropR s k t) : ∃ n : Nat, (s.gone[k]).a = (n : Int) ∧ n < 64 ∧ (1 ≤ t.sp.refs.getD n 0 ∧ t.sp.refs.getD n 0 ≤ 900) ∧ DropR s (k + 1) (dropSt t n) := by
  obtain ⟨n, h1, h2, h3, h4⟩ := drop_step h hk d.at_
  exact ⟨n, h1, h2, h3, h4, rows_step d.rows h.len d.at_.ok.1 h2 h3.1⟩
end
theorem dropR_end {s t : St} (_ : StOk s) (d : DropR s s.gone.length t) : { t with gone := [], txg := t.txg + 1 } = nextSt s := by
  obtain ⟨d, hr⟩ := d
  have h1 := d.sp
  rw [List.take_length] at h1
  obtain ⟨rows, sp, txg, gone, keep, dead, same⟩ := t
  have e1 : txg = s.txg := d.txg
  have e2 : keep = s.keep := d.keep
  have e3 : dead = s.dead := d.dead
  have e4 : same = s.same := d.same
  simp only at h1 hr
  rw [h1] at hr
  simp only [nextSt, withSt, h1, hr, e1, e2, e3, e4]
end Go.Proofs.Ytmnamclndpfjnaa
