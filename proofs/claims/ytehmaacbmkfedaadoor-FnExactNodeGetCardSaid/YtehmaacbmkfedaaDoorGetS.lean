/-
  spec.FieldsGet answers the record that a text is the text of; and an empty one and false where it is the text of none.
-/
import Derived.Test.YtehmaacbmkfedaaDoorGetI
namespace Go.Proofs.YtehmaacbmkfedaaDoor
open Go.RowKit

theorem ext_drop (s : ByteArray) (at0 n : Nat) (hn : n = s.size) : s.extract at0 n = strOf (s.data.toList.drop at0) := by
  apply bytes_inj
  rw [hn, Lib.extract_to_end, strOf_toList]
theorem ext_mid (s f : ByteArray) (x y : List UInt8) (at0 u : Nat) (h : s.data.toList = x ++ f.data.toList ++ y) (ha : at0 = x.length) (ht : u = x.length + f.size) : s.extract at0 u = f := by
  apply bytes_inj
  have h1 : (s.extract at0 u).data.toList = (s.data.toList.drop at0).take (u - at0) := by
    rw [← ByteArray.toList_eq, Lib.extract_toList]
  have hf : f.size = f.data.toList.length := by rw [Array.length_toList]; rfl
  rw [h1, h, ha, ht, List.append_assoc, List.drop_left, Nat.add_sub_cancel_left, hf, List.take_left]

theorem rec_len {l : List UInt8} {ss : List ByteArray} (h : isRec l ss) : l.length ≤ 2048 := by rw [h.2.2]; exact h.2.1

/-- What the loop's head finds at a place of the text. -/
theorem place_at (s : ByteArray) (ss : List ByteArray) (r : List UInt8) (hsp : s.data.toList = recL ss ++ r) :
    s.data.toList.drop (recL ss).length = r := by rw [hsp, List.drop_left]

end Go.Proofs.YtehmaacbmkfedaaDoor
