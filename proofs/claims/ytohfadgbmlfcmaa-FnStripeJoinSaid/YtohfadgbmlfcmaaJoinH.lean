/-
  StripeJoin of the model, by each of the ways.
-/
import Derived.Test.YtohfadgbmlfcmaaCutW
namespace Go.Proofs.Ytohfadgbmlfcmaa
open Go.RowKit

def joinD (ss : List ByteArray) (size lost : Int) : ByteArray × Bool :=
  if ss.length = 3 ∧ (1 ≤ size ∧ size ≤ 128) ∧ (-1 ≤ lost ∧ lost ≤ 1) then
    (strOf (joinL (ss.getD 0 none8).data.toList (ss.getD 1 none8).data.toList (ss.getD 2 none8).data.toList size.toNat lost).1, (joinL (ss.getD 0 none8).data.toList (ss.getD 1 none8).data.toList (ss.getD 2 none8).data.toList size.toNat lost).2)
  else (none8, false)
def JoinPost (ss : List ByteArray) (size lost : Int) (w : World) (r : Ending) (w' : World) : Prop :=
  r = .returned (.tuple #[.string (joinD ss size lost).1, .bool (joinD ss size lost).2]) ∧ Below w.heap.size w w'
theorem joinD_no {ss : List ByteArray} {size lost : Int} (h : ¬ (ss.length = 3 ∧ (1 ≤ size ∧ size ≤ 128) ∧ (-1 ≤ lost ∧ lost ≤ 1))) : joinD ss size lost = (none8, false) := if_neg h
theorem joinD_yes (x0 x1 x2 : ByteArray) (n : Nat) (lost : Int) (h1 : 1 ≤ n) (h2 : n ≤ 128) (h3 : -1 ≤ lost ∧ lost ≤ 1) :
    joinD [x0, x1, x2] (n : Int) lost = (strOf (joinL x0.data.toList x1.data.toList x2.data.toList n lost).1, (joinL x0.data.toList x1.data.toList x2.data.toList n lost).2) := by
  unfold joinD
  rw [if_pos ⟨rfl, by omega, h3⟩]
  rfl
theorem JoinPost.no {ss : List ByteArray} {size lost : Int} {w w' : World} (h : joinD ss size lost = (none8, false)) (hb : Below w.heap.size w w') : JoinPost ss size lost w (.returned (.tuple #[.string ⟨#[]⟩, .bool false])) w' := by
  refine ⟨?_, hb⟩
  rw [h]
  rfl
theorem JoinPost.yes {ss : List ByteArray} {size lost : Int} {w w' : World} {t : ByteArray} (h : joinD ss size lost = (t, true)) (hb : Below w.heap.size w w') : JoinPost ss size lost w (.returned (.tuple #[.string t, .bool true])) w' := by
  refine ⟨?_, hb⟩
  rw [h]
theorem toL_len (x : ByteArray) : x.data.toList.length = x.size := by rw [Array.length_toList]; rfl
theorem strOf_app2 (x y : ByteArray) : strOf (x.data.toList ++ y.data.toList) = x ++ y := by
  apply bytes_inj
  rw [strOf_toList, ByteArray.data_append, Array.toList_append]
theorem strOf_appL (l : List UInt8) (y : ByteArray) : strOf (l ++ y.data.toList) = strOf l ++ y := by
  apply bytes_inj
  rw [strOf_toList, ByteArray.data_append, Array.toList_append, strOf_toList]
theorem strOf_appR (x : ByteArray) (l : List UInt8) : strOf (x.data.toList ++ l) = x ++ strOf l := by
  apply bytes_inj
  rw [strOf_toList, ByteArray.data_append, Array.toList_append, strOf_toList]
/-- The ways, column by column. -/
theorem way_a {x0 x1 x2 : ByteArray} {n : Nat} (h1 : 1 ≤ n) (h2 : n ≤ 128) (f0 : x0.size = half n) (f1 : x1.size = n - half n) : joinD [x0, x1, x2] (n : Int) (-1) = (x0 ++ x1, true) := by
  rw [joinD_yes _ _ _ _ _ h1 h2 (by omega)]
  unfold joinL fitA fitB
  rw [if_pos rfl, if_pos ⟨by rw [toL_len]; exact f0, by rw [toL_len]; exact f1⟩]
  show (strOf _, true) = _
  rw [strOf_app2]
theorem way_a_no {x0 x1 x2 : ByteArray} {n : Nat} (h1 : 1 ≤ n) (h2 : n ≤ 128) (f : ¬ (x0.size = half n ∧ x1.size = n - half n)) : joinD [x0, x1, x2] (n : Int) (-1) = (none8, false) := by
  rw [joinD_yes _ _ _ _ _ h1 h2 (by omega)]
  unfold joinL fitA fitB
  rw [if_pos rfl, if_neg (by rw [toL_len, toL_len]; exact f)]
  rfl
theorem way_b {x0 x1 x2 : ByteArray} {n : Nat} (h1 : 1 ≤ n) (h2 : n ≤ 128) (f1 : x1.size = n - half n) (f2 : x2.size = half n) : joinD [x0, x1, x2] (n : Int) 0 = (strOf (mixL x2.data.toList x1.data.toList (half n)) ++ x1, true) := by
  rw [joinD_yes _ _ _ _ _ h1 h2 (by omega)]
  unfold joinL fitA fitB
  rw [if_neg (by decide), if_pos rfl, if_pos ⟨by rw [toL_len]; exact f1, by rw [toL_len]; exact f2⟩]
  show (strOf _, true) = _
  rw [strOf_appL]
theorem way_b_no {x0 x1 x2 : ByteArray} {n : Nat} (h1 : 1 ≤ n) (h2 : n ≤ 128) (f : ¬ (x1.size = n - half n ∧ x2.size = half n)) : joinD [x0, x1, x2] (n : Int) 0 = (none8, false) := by
  rw [joinD_yes _ _ _ _ _ h1 h2 (by omega)]
  unfold joinL fitA fitB
  rw [if_neg (by decide), if_pos rfl, if_neg (by rw [toL_len, toL_len]; exact f)]
  rfl
theorem way_c {x0 x1 x2 : ByteArray} {n : Nat} (h1 : 1 ≤ n) (h2 : n ≤ 128) (f0 : x0.size = half n) (f2 : x2.size = half n) : joinD [x0, x1, x2] (n : Int) 1 = (x0 ++ strOf (mixL x2.data.toList x0.data.toList (n - half n)), true) := by
  rw [joinD_yes _ _ _ _ _ h1 h2 (by omega)]
  unfold joinL fitA
  rw [if_neg (by decide), if_neg (by decide), if_pos ⟨by rw [toL_len]; exact f0, by rw [toL_len]; exact f2⟩]
  show (strOf _, true) = _
  rw [strOf_appR]
theorem way_c_no {x0 x1 x2 : ByteArray} {n : Nat} (h1 : 1 ≤ n) (h2 : n ≤ 128) (f : ¬ (x0.size = half n ∧ x2.size = half n)) : joinD [x0, x1, x2] (n : Int) 1 = (none8, false) := by
  rw [joinD_yes _ _ _ _ _ h1 h2 (by omega)]
  unfold joinL fitA
  rw [if_neg (by decide), if_neg (by decide), if_neg (by rw [toL_len, toL_len]; exact f)]
  rfl
/-- Three texts that lie somewhere. -/
def Three (w : World) (b off : Nat) (x0 x1 x2 : ByteArray) : Prop := b < w.heap.size ∧ w.cell? ⟨b, off, none⟩ = some (.string x0) ∧ w.cell? ⟨b, off + 1, none⟩ = some (.string x1) ∧ w.cell? ⟨b, off + 2, none⟩ = some (.string x2)
theorem Three.of {w : World} {A : Option Addr} {x0 x1 x2 : ByteArray} (h : Lies w A (strCells [x0, x1, x2])) : ∃ b off, A = some ⟨b, off, none⟩ ∧ Three w b off x0 x1 x2 := by
  obtain ⟨b, off, e, hlt, hc⟩ := h (by simp [strCells])
  exact ⟨b, off, e, hlt, hc 0 _ rfl, hc 1 _ rfl, hc 2 _ rfl⟩
theorem Three.below {w w' : World} {b off : Nat} {x0 x1 x2 : ByteArray} (h : Three w b off x0 x1 x2) (hb : Below w.heap.size w w') : Three w' b off x0 x1 x2 :=
  ⟨Nat.lt_of_lt_of_le h.1 hb.size, (hb.cell (p := ⟨b, off, none⟩) h.1).trans h.2.1, (hb.cell (p := ⟨b, off + 1, none⟩) h.1).trans h.2.2.1, (hb.cell (p := ⟨b, off + 2, none⟩) h.1).trans h.2.2.2⟩

/-- The three cells alone. -/
def ThreeC (b off : Nat) (x0 x1 x2 : ByteArray) (w : World) : Prop := w.cell? ⟨b, off, none⟩ = some (.string x0) ∧ w.cell? ⟨b, off + 1, none⟩ = some (.string x1) ∧ w.cell? ⟨b, off + 2, none⟩ = some (.string x2)
theorem Three.cells {w : World} {b off : Nat} {x0 x1 x2 : ByteArray} (h : Three w b off x0 x1 x2) : ThreeC b off x0 x1 x2 w := h.2
end Go.Proofs.Ytohfadgbmlfcmaa
