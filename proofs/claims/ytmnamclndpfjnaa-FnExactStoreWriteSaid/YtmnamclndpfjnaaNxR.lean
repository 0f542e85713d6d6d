/-
  Giving back reference by reference, as the specification does it, comes to what is left at the group's end.
  The rows that are emptied when references are given back.
  What giving up a pointer makes of a store.
-/
import Derived.Test.YtmnamclndpfjnaaDrp

namespace Go.Proofs.Ytmnamclndpfjnaa

theorem drop_sp {t : St} (h : SpOk t.sp) {n : Nat} (hn : n < 64) : (dropSt t n).sp = spOf (giveU (usOf t.sp) (n : Int)) := by
  rw [spOf_give h (n : Int) (x := t.sp.refs.getD n 0) (y := t.sp.last.getD n 0) (by omega) (by omega) (by rw [useAt_nat, usOf_at h.1 h.2.1 n hn])]
  simp [dropSt]

section
variable {s : St} (h : StOk s)
include h
theorem next_okT (k : Nat) (hk : k ≤ s.gone.length) : SpOk (spOf (nextU (usOf s.sp) (s.gone.take k))) := by
  have hl : (nextU (usOf s.sp) (s.gone.take k)).length = 64 := by rw [nextU_len, usOf_len h.sp.1 h.sp.2.1]
  refine ⟨by simp [spOf, hl], by simp [spOf, hl], fun i hi => ?_⟩
  rw [usOf_spOf, next_row h k hk i hi]
  have hw := h.sp.2.2 i hi
  unfold rowOk at hw ⊢
  obtain ⟨u, hu⟩ : ∃ u, u = (usOf s.sp).getD i (0, 0) := ⟨_, rfl⟩
  rw [← hu] at hw ⊢
  have hc : ((cntAt (s.gone.take k) i : Nat) : Int) ≤ u.1 := by
    have := next_cnt h k hk i hi
    rw [hu, usOf_at h.sp.1 h.sp.2.1 i hi]
    exact this
  unfold leftOf
  split
  · exact .inl ⟨rfl, rfl⟩
  · simp only
    rcases hw with hw | hw
    · left
      rcases Nat.eq_zero_or_pos (cntAt (s.gone.take k) i) with h0 | h0
      · rw [h0]; simp [hw]
      · omega
    · right
      omega
/-- The store of which the first k pointers of Gone have been given back. -/
structure DropAt (s : St) (k : Nat) (t : St) : Prop where
  rows : t.rows.length = 64
  sp : t.sp = spOf (nextU (usOf s.sp) (s.gone.take k))
  ok : SpOk t.sp
  txg : t.txg = s.txg
  gone : t.gone = s.gone
  keep : t.keep = s.keep
  dead : t.dead = s.dead
  same : t.same = s.same
theorem drop_start : DropAt s 0 s := ⟨h.len, by rw [List.take_zero, nextU_nil, spOf_usOf (by rw [h.sp.1, h.sp.2.1])], h.sp, rfl, rfl, rfl, rfl, rfl⟩
theorem drop_step {k : Nat} {t : St} (hk : k < s.gone.length) (d : DropAt s k t) : ∃ n : Nat, (s.gone[k]).a = (n : Int) ∧ n < 64 ∧ (1 ≤ t.sp.refs.getD n 0 ∧ t.sp.refs.getD n 0 ≤ 900) ∧ DropAt s (k + 1) (dropSt t n) := by
  obtain ⟨⟨a0, a1⟩, b1, b2, _⟩ := next_step h k hk
  obtain ⟨n, hn⟩ : ∃ n : Nat, (s.gone[k]).a = (n : Int) := ⟨(s.gone[k]).a.toNat, by omega⟩
  have hn64 : n < 64 := by omega
  have hU : usOf t.sp = nextU (usOf s.sp) (s.gone.take k) := by rw [d.sp, usOf_spOf]
  rw [hn, useAt_nat, ← hU, usOf_at d.ok.1 d.ok.2.1 n hn64] at b1 b2
  have hw := d.ok.2.2 n hn64
  rw [usOf_at d.ok.1 d.ok.2.1 n hn64] at hw
  unfold rowOk at hw
  simp only at b1 b2 hw
  have hsp : (dropSt t n).sp = spOf (nextU (usOf s.sp) (s.gone.take (k + 1))) := by
    rw [drop_sp d.ok hn64, hU, List.take_succ_eq_append_getElem hk, nextU_snoc, hn]
  refine ⟨n, hn, hn64, by omega, ⟨by rw [drop_rows, d.rows], hsp, ?_, d.txg, d.gone, d.keep, d.dead, d.same⟩⟩
  rw [hsp]
  exact next_okT h (k + 1) hk
end
end Go.Proofs.Ytmnamclndpfjnaa

namespace Go.Proofs.Ytmnamclndpfjnaa

def emptTo (R : List Int) (L : List ByteArray) (k : Nat) : List ByteArray := L.mapIdx fun i r => if i < k ∧ R.getD i 0 = 0 then b0 else r
theorem emptTo_len (R : List Int) (L : List ByteArray) (k : Nat) : (emptTo R L k).length = L.length := by simp [emptTo]
theorem emptTo_at (R : List Int) (L : List ByteArray) (k i : Nat) (h : i < (emptTo R L k).length) : (emptTo R L k)[i] = if i < k ∧ R.getD i 0 = 0 then b0 else L[i]'(by rw [emptTo_len] at h; exact h) := by simp only [emptTo, List.getElem_mapIdx]
theorem emptTo_zero (R : List Int) (L : List ByteArray) : emptTo R L 0 = L := by
  refine List.ext_getElem (emptTo_len _ _ _) fun i h1 h2 => ?_
  rw [emptTo_at, if_neg (by omega)]
theorem emptTo_yes {R : List Int} {L : List ByteArray} {k : Nat} (h : R.getD k 0 = 0) : emptTo R L (k + 1) = (emptTo R L k).set k b0 := by
  refine List.ext_getElem (by rw [List.length_set, emptTo_len, emptTo_len]) fun i h1 h2 => ?_
  rw [List.getElem_set, emptTo_at]
  by_cases e : k = i
  · subst e
    rw [if_pos rfl, if_pos ⟨by omega, h⟩]
  · rw [if_neg e, emptTo_at]
    by_cases h3 : i < k
    · by_cases h4 : R.getD i 0 = 0
      · rw [if_pos ⟨by omega, h4⟩, if_pos ⟨h3, h4⟩]
      · rw [if_neg (fun h => h4 h.2), if_neg (fun h => h4 h.2)]
    · rw [if_neg (fun h => by omega), if_neg (fun h => h3 h.1)]
theorem emptTo_no {R : List Int} {L : List ByteArray} {k : Nat} (h : ¬ R.getD k 0 = 0) : emptTo R L (k + 1) = emptTo R L k := by
  refine List.ext_getElem (by rw [emptTo_len, emptTo_len]) fun i h1 h2 => ?_
  rw [emptTo_at, emptTo_at]
  by_cases e : k = i
  · subst e
    rw [if_neg (fun g => h g.2), if_neg (fun g => h g.2)]
  · by_cases h4 : R.getD i 0 = 0
    · by_cases h3 : i < k
      · rw [if_pos ⟨by omega, h4⟩, if_pos ⟨h3, h4⟩]
      · rw [if_neg (fun h => by omega), if_neg (fun h => h3 h.1)]
    · rw [if_neg (fun h => h4 h.2), if_neg (fun h => h4 h.2)]
/-- A store with another space, and without the texts of rows that are free in that. -/
def withSt (s : St) (p : Sp) : St := { s with rows := emptTo p.refs s.rows 64, sp := p }
def nextSt (s : St) : St := { withSt s (spOf (nextU (usOf s.sp) s.gone)) with gone := [], txg := s.txg + 1 }
def nextS (s : St) : St := if StOk s ∧ s.txg < 900 then nextSt s else noSt
def nextB (s : St) : Bool := decide (StOk s ∧ s.txg < 900)
theorem b0_of {b : ByteArray} (h : b.size = 0) : b = b0 := by
  have : b.data = #[] := Array.eq_empty_of_size_eq_zero h
  cases b
  simp only at this
  subst this
  rfl
section
variable {s : St} (h : StOk s)
include h
theorem rows_start : s.rows = emptTo s.sp.refs s.rows 64 := by
  refine List.ext_getElem (by rw [emptTo_len]) fun i h1 h2 => ?_
  rw [emptTo_at]
  by_cases e : i < 64 ∧ s.sp.refs.getD i 0 = 0
  · rw [if_pos e]
    have := (h.rows i e.1).2.1
    simp only at this
    rw [List.getD_eq_getElem?_getD, List.getElem?_eq_getElem h1, Option.getD_some] at this
    exact b0_of (this.2 e.2)
  · rw [if_neg e]
end
theorem rows_step {t : St} {L : List ByteArray} (hr : t.rows = emptTo t.sp.refs L 64) (hl : L.length = 64) (h2 : t.sp.refs.length = 64) {n : Nat} (hn : n < 64) (hx : 1 ≤ t.sp.refs.getD n 0) : (dropSt t n).rows = emptTo (dropSt t n).sp.refs L 64 := by
  refine List.ext_getElem (by rw [drop_rows, hr, emptTo_len, emptTo_len]) fun i h1 h3 => ?_
  have hi : i < 64 := by rw [emptTo_len, hl] at h3; exact h3
  have hg : (dropSt t n).sp.refs.getD i 0 = if i = n then t.sp.refs.getD n 0 - 1 else t.sp.refs.getD i 0 := by
    show (t.sp.refs.set n _).getD i 0 = _
    rw [set_getD _ _ _ _ _ (by omega)]
  rw [emptTo_at, hg]
  by_cases e : i = n
  · subst e
    rw [if_pos rfl]
    by_cases h1 : t.sp.refs.getD i 0 = 1
    · rw [if_pos ⟨hi, by omega⟩]
      simp only [dropSt, h1, if_true, List.getElem_set_self]
    · rw [if_neg (fun g => h1 (by omega))]
      simp only [dropSt, h1, if_false]
      have : t.rows[i]'(by rw [hr, emptTo_len, hl]; exact hi) = (emptTo t.sp.refs L 64)[i]'(by rw [emptTo_len, hl]; exact hi) := by congr 1
      rw [this, emptTo_at, if_neg (fun g => by omega)]
  · rw [if_neg e]
    have : t.rows[i]'(by rw [hr, emptTo_len, hl]; exact hi) = (emptTo t.sp.refs L 64)[i]'(by rw [emptTo_len, hl]; exact hi) := by congr 1
    rw [emptTo_at] at this
    rw [← this]
    simp only [dropSt]
    split
    · rw [List.getElem_set, if_neg (fun g => e g.symm)]
    · rfl
/-- .. and its rows. -/
structure DropR (s : St) (k : Nat) (t : St) : Prop where
  at_ : DropAt s k t
  rows : t.rows = emptTo t.sp.refs s.rows 64
section
variable {s : St} (h : StOk s)
include h
theorem dropR_start : DropR s 0 s := ⟨drop_start h, rows_start h⟩
theorem dropR_step {k : Nat} {t : St} (hk : k < s.gone.length) (d : DropR s k t) : ∃ n : Nat, (s.gone[k]).a = (n : Int) ∧ n < 64 ∧ (1 ≤ t.sp.refs.getD n 0 ∧ t.sp.refs.getD n 0 ≤ 900) ∧ DropR s (k + 1) (dropSt t n) := by
  obtain ⟨n, h1, h2, h3, h4⟩ := drop_step h hk d.at_
  exact ⟨n, h1, h2, h3, h4, rows_step d.rows h.len d.at_.ok.1 h2 h3.1⟩
end
theorem dropR_end {s t : St} (_ : StOk s) (d : DropR s s.gone.length t) : { t with gone := [], txg := t.txg + 1 } = nextSt s := by
  obtain ⟨d, hr⟩ := d
  have h1 := d.sp
  rw [List.take_length] at h1
  obtain ⟨rows, sp, txg, gone, keep, dead, same⟩ := t
  have e1 : txg = s.txg := d.txg
  have e2 : keep = s.keep := d.keep
  have e3 : dead = s.dead := d.dead
  have e4 : same = s.same := d.same
  simp only at h1 hr
  rw [h1] at hr
  simp only [nextSt, withSt, h1, hr, e1, e2, e3, e4]
end Go.Proofs.Ytmnamclndpfjnaa

namespace Go.Proofs.Ytmnamclndpfjnaa

def freeOk (s : St) (p : P5) : Prop := StOk s ∧ p.ok = true ∧ p.b ≤ s.txg ∧ (p.hole = true ∨ s.sp.refs.getD p.a.toNat 0 ≠ 0)
instance (s : St) (p : P5) : Decidable (freeOk s p) := by unfold freeOk; infer_instance
def freeSt (s : St) (p : P5) : St :=
  if p.hole = true then s else if p.b ≤ s.keep then { s with dead := s.dead ++ [p] } else if p.b < s.txg then { s with gone := s.gone ++ [p] } else dropSt s p.a.toNat
def freeS (s : St) (p : P5) : St := if freeOk s p then freeSt s p else noSt
def freeF (s : St) (p : P5) : Bool := decide (freeOk s p)
theorem freeS_yes {s : St} {p : P5} (h : freeOk s p) : freeS s p = freeSt s p := if_pos h
theorem freeS_no {s : St} {p : P5} (h : ¬ freeOk s p) : freeS s p = noSt := if_neg h
theorem freeF_yes {s : St} {p : P5} (h : freeOk s p) : freeF s p = true := decide_eq_true h
theorem freeF_no {s : St} {p : P5} (h : ¬ freeOk s p) : freeF s p = false := decide_eq_false h
theorem freeSt_hole {s : St} {p : P5} (h : p.hole = true) : freeSt s p = s := if_pos h
theorem freeSt_dead {s : St} {p : P5} (h : p.hole = false) (h1 : p.b ≤ s.keep) : freeSt s p = { s with dead := s.dead ++ [p] } := by
  unfold freeSt
  rw [if_neg (by rw [h]; decide), if_pos h1]
theorem freeSt_gone {s : St} {p : P5} (h : p.hole = false) (h1 : ¬ p.b ≤ s.keep) (h2 : p.b < s.txg) : freeSt s p = { s with gone := s.gone ++ [p] } := by
  unfold freeSt
  rw [if_neg (by rw [h]; decide), if_neg h1, if_pos h2]
theorem freeSt_drop {s : St} {p : P5} (h : p.hole = false) (h1 : ¬ p.b ≤ s.keep) (h2 : ¬ p.b < s.txg) : freeSt s p = dropSt s p.a.toNat := by
  unfold freeSt
  rw [if_neg (by rw [h]; decide), if_neg h1, if_neg h2]
section
variable {s : St} (h : StOk s)
include h
theorem with_give {n : Nat} (hn : n < 64) (hx : 1 ≤ s.sp.refs.getD n 0) : withSt s (spOf (giveU (usOf s.sp) (n : Int))) = dropSt s n := by
  have h1 := rows_step (rows_start h) h.len h.sp.1 hn hx
  rw [← drop_sp h.sp hn]
  generalize hd : dropSt s n = d at h1
  obtain ⟨rows, sp, txg, gone, keep, dead, same⟩ := d
  simp only at h1
  simp only [dropSt, St.mk.injEq] at hd
  unfold withSt
  simp only [← h1, hd]
theorem give_used {n : Nat} (hn : n < 64) (hx : s.sp.refs.getD n 0 ≠ 0) : 1 ≤ s.sp.refs.getD n 0 ∧ s.sp.refs.getD n 0 ≤ 900 ∧ giveS s.sp (n : Int) = (spOf (giveU (usOf s.sp) (n : Int)), true) := by
  have hb := h.ref_bd n hn
  refine ⟨by omega, hb.2, ?_⟩
  have hne : useAt (usOf s.sp) (n : Int) ≠ (0, 0) := by
    rw [useAt_nat, usOf_at h.sp.1 h.sp.2.1 n hn]
    intro e
    injection e with e1 e2
    exact hx e1
  exact if_pos ⟨h.sp, hne⟩
end
end Go.Proofs.Ytmnamclndpfjnaa
