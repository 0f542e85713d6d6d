/-
  The text of a node: seven fields; when a text is that of a node. Pure.
-/
import Derived.Test.YtehmaacbmkfedaaDoorNb
import Derived.Test.YtehmaacbmkfedaaDoorRecInj
import Derived.Test.YtehmaacbmkfedaaDoorGetPut
namespace Go.Proofs.YtehmaacbmkfedaaDoor
open Go.RowKit

def endB : ByteArray := ⟨#[101, 110, 100]⟩
def flds (n : Nd) : List ByteArray := [strOf (numText n.kind), strOf (numText n.links), strOf (numText n.size), strOf (putT n.root.a n.root.b n.root.c n.root.d n.root.e), strOf (numText n.depth), strOf (numText n.many), endB]
theorem ok_parts {n : Nd} (h : nodeOk n = true) : (0 ≤ n.kind ∧ n.kind ≤ 2) ∧ (0 ≤ n.links ∧ n.links ≤ 9) ∧ (0 ≤ n.size ∧ n.size ≤ 2048) ∧ isOk n.root.a n.root.b n.root.c n.root.d n.root.e = true ∧ (0 ≤ n.depth ∧ n.depth ≤ 2) ∧ (0 ≤ n.many ∧ n.many ≤ 16) := by
  unfold nodeOk formB at h
  simp only [Bool.and_eq_true, inB_iff, beq_iff_eq] at h
  obtain ⟨⟨⟨h1, h2⟩, ⟨⟨h3, h4⟩, h5⟩, h6⟩, h7⟩ := h
  have hd := depthOf_le n.many
  have hk : (n.kind = 1 ∧ 0 ≤ n.size ∧ n.size ≤ 192) ∨ (n.kind = 2 ∧ 0 ≤ n.size ∧ n.size ≤ 2048) := by
    unfold pieces at h1
    split at h1
    · split at h1
      · exact .inl ⟨by assumption, by assumption⟩
      · omega
    · split at h1
      · split at h1
        · exact .inr ⟨by assumption, by assumption⟩
        · omega
      · omega
  have ht : topOf n.kind ≤ 9 := by unfold topOf; split <;> omega
  exact ⟨by omega, by omega, by omega, h5, by omega, h3⟩
theorem putT_49 (a b c d e : Int) : (putT a b c d e).length ≤ 49 := by
  unfold putT
  split
  · split
    · simp
    · have h1 := num_short a
      have h2 := num_short b
      have h3 := num_short c
      have h4 := num_short d
      have h5 := num_short e
      simp [joinB]
      omega
  · simp
theorem encF_short (s : ByteArray) (k : Nat) (h : s.size ≤ k) (hk : k ≤ 999) : (encF s).length ≤ 10 + k := by
  rw [encF_len]
  have := dec_len9 s.size (by omega)
  omega
theorem flds_size (n : Nd) : ∀ s ∈ flds n, s.size ≤ 49 := by
  intro s hs
  simp only [flds, List.mem_cons, List.not_mem_nil, or_false] at hs
  rcases hs with rfl | rfl | rfl | rfl | rfl | rfl | rfl
  all_goals first
    | (rw [strOf_size]; have := num_short n.kind; omega)
    | (rw [strOf_size]; have := num_short n.links; omega)
    | (rw [strOf_size]; have := num_short n.size; omega)
    | (rw [strOf_size]; exact putT_49 _ _ _ _ _)
    | (rw [strOf_size]; have := num_short n.depth; omega)
    | (rw [strOf_size]; have := num_short n.many; omega)
    | decide
theorem recL_short : ∀ (ss : List ByteArray), (∀ s ∈ ss, s.size ≤ 49) → (recL ss).length ≤ 59 * ss.length
  | [], _ => by simp [recL]
  | s :: ss, h => by
    have h1 := encF_short s 49 (h s (by simp)) (by decide)
    have h2 := recL_short ss (fun x hx => h x (by simp [hx]))
    rw [recL_cons, List.length_append, List.length_cons]
    omega
theorem fput_flds (n : Nd) : fput (flds n) = (recL (flds n), true) := by
  refine fput_yes (by simp [flds]) ?_
  have := recL_short (flds n) (flds_size n)
  have hl : (flds n).length = 7 := rfl
  omega
def nodeT (n : Nd) : ByteArray := if nodeOk n = true then strOf (recL (flds n)) else ⟨#[]⟩
theorem nodeT_yes {n : Nd} (h : nodeOk n = true) : nodeT n = strOf (recL (flds n)) := if_pos h
theorem nodeT_no {n : Nd} (h : nodeOk n = false) : nodeT n = ⟨#[]⟩ := if_neg (by rw [h]; decide)

theorem numG_text {a : Int} (h : 0 ≤ a ∧ a ≤ 999999999) : numG (numText a) = (a, true) := by
  unfold numText
  rw [if_pos h]
  have hg := dec_good a.toNat (by omega)
  rw [numG_yes hg]
  have hv := num_of_good hg
  have hb := val_small _ hg.2.2.1 hg.2.1
  unfold numText at hv
  rw [if_pos ⟨by omega, by omega⟩, Int.toNat_natCast] at hv
  have := dec_inj (x := (val (Lib.decDigits a.toNat) : Int)) (by omega) h.1 (by rw [Int.toNat_natCast]; exact hv)
  rw [this]

/-- A text is that of a node that is formed. -/
def NodeOf (s : ByteArray) (n : Nd) : Prop := nodeOk n = true ∧ s.data.toList = recL (flds n)
/-- The node that seven fields tell. -/
def nodeOf (ss : List ByteArray) : Nd := ⟨numV (ss.getD 0 ⟨#[]⟩), numV (ss.getD 1 ⟨#[]⟩), numV (ss.getD 2 ⟨#[]⟩), (ptrG (ss.getD 3 ⟨#[]⟩)).1, numV (ss.getD 4 ⟨#[]⟩), numV (ss.getD 5 ⟨#[]⟩)⟩
theorem numV_text {a : Int} (h : 0 ≤ a ∧ a ≤ 999999999) : numV (strOf (numText a)) = a := by
  unfold numV
  rw [strOf_toList, numG_text h]
theorem isNum_text {a : Int} (h : 0 ≤ a ∧ a ≤ 999999999) : isNum (strOf (numText a)) = true := by
  unfold isNum
  rw [strOf_toList, numG_text h]
theorem nodeOf_flds {n : Nd} (h : nodeOk n = true) : nodeOf (flds n) = n := by
  obtain ⟨h1, h2, h3, h4, h5, h6⟩ := ok_parts h
  obtain ⟨kind, links, size, ⟨a, b, c, d, e⟩, depth, many⟩ := n
  simp only at h1 h2 h3 h4 h5 h6
  unfold nodeOf flds
  simp only [List.getD_cons_zero, List.getD_cons_succ]
  rw [numV_text (by omega), numV_text (by omega), numV_text (by omega), numV_text (by omega), numV_text (by omega), get_put h4]
/-- What the program asks of seven fields. -/
def sevenOk (ss : List ByteArray) : Prop := ss.length = 7 ∧ ss.getD 6 ⟨#[]⟩ = endB ∧ isNum (ss.getD 0 ⟨#[]⟩) = true ∧ isNum (ss.getD 1 ⟨#[]⟩) = true ∧ isNum (ss.getD 2 ⟨#[]⟩) = true ∧ (ptrG (ss.getD 3 ⟨#[]⟩)).2 = true ∧ isNum (ss.getD 4 ⟨#[]⟩) = true ∧ isNum (ss.getD 5 ⟨#[]⟩) = true ∧ nodeOk (nodeOf ss) = true
theorem text_num {s : ByteArray} (h : isNum s = true) : strOf (numText (numV s)) = s := by
  unfold isNum at h
  unfold numV
  by_cases hg : Good s.data.toList
  · rw [numG_yes hg, num_of_good hg]
    exact bytes_inj (strOf_toList _)
  · rw [numG_no hg] at h
    cases h
theorem flds_seven {ss : List ByteArray} (h : sevenOk ss) : flds (nodeOf ss) = ss := by
  obtain ⟨h7, he, h0, h1, h2, h3, h4, h5, _⟩ := h
  match ss, h7 with
  | [x0, x1, x2, x3, x4, x5, x6], _ =>
    simp only [List.getD_cons_zero, List.getD_cons_succ] at he h0 h1 h2 h3 h4 h5
    obtain ⟨⟨a, b, c, d, e⟩, o⟩ : P5 × Bool := ptrG x3
    unfold flds nodeOf
    simp only [List.getD_cons_zero, List.getD_cons_succ]
    have hp : ptrG x3 = (⟨(ptrG x3).1.a, (ptrG x3).1.b, (ptrG x3).1.c, (ptrG x3).1.d, (ptrG x3).1.e⟩, true) := Prod.ext rfl h3
    rw [text_num h0, text_num h1, text_num h2, text_num h4, text_num h5, (put_get hp).2, he]
theorem seven_flds {n : Nd} (h : nodeOk n = true) : sevenOk (flds n) := by
  have hn := nodeOf_flds h
  obtain ⟨h1, h2, h3, h4, h5, h6⟩ := ok_parts h
  refine ⟨rfl, rfl, isNum_text (by omega), isNum_text (by omega), isNum_text (by omega), ?_, isNum_text (by omega), isNum_text (by omega), by rw [hn]; exact h⟩
  show (ptrG (strOf (putT n.root.a n.root.b n.root.c n.root.d n.root.e))).2 = true
  rw [get_put h4]
theorem nodeOf_yes {s : ByteArray} {ss : List ByteArray} (hs : s.data.toList = recL ss) (h : sevenOk ss) : NodeOf s (nodeOf ss) :=
  ⟨h.2.2.2.2.2.2.2.2, by rw [hs, flds_seven h]⟩
theorem nodeOf_no {s : ByteArray} {ss : List ByteArray} (hs : s.data.toList = recL ss) (h : ¬ sevenOk ss) (n : Nd) : ¬ NodeOf s n := fun ⟨h1, h2⟩ => by
  rw [hs] at h2
  rw [recL_inj h2] at h
  exact h (seven_flds h1)
theorem nodeOf_none {s : ByteArray} (h : ∀ ss, ¬ (ss.length ≤ 60 ∧ (recL ss).length ≤ 2048 ∧ s.data.toList = recL ss)) (n : Nd) : ¬ NodeOf s n := fun ⟨_, h2⟩ =>
  h (flds n) ⟨by show 7 ≤ 60; omega, by have := recL_short (flds n) (flds_size n); have hl : (flds n).length = 7 := rfl; omega, h2⟩
theorem nodeOf_one {s : ByteArray} {n m : Nd} (h : NodeOf s n) (h' : NodeOf s m) : n = m := by
  have := recL_inj (h.2.symm.trans h'.2)
  rw [← nodeOf_flds h.1, this, nodeOf_flds h'.1]
end Go.Proofs.YtehmaacbmkfedaaDoor
