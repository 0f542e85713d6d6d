/-
  NumPut, the program's and the model's, answer one text at every number.
-/
import Derived.Lib.AppendIntMem
import Derived.Test.YtehmaacbmkfedaaDoorDec
import Derived.Test.YtehmaacbmkfedaaDoorShelf
namespace Go.Proofs.YtehmaacbmkfedaaDoor
open Go.RowKit

def numText (a : Int) : List UInt8 := if 0 ≤ a ∧ a ≤ 999999999 then Lib.decDigits a.toNat else []

set_option maxRecDepth 100000 in
set_option maxHeartbeats 400000 in
theorem impl_num (a : Int) (w : World) (htab : Lib.TabIs Tryd.prog w "internal/strconv.uint64pow10" .u64 Lib.pow10Tab) :
    Calls Tryd.prog 50 #[.int .i64 a] w fun e w' => e = .returned (.string (strOf (numText a))) ∧ Below w.heap.size w w' := by
  by_cases h : 0 ≤ a ∧ a ≤ 999999999
  · have hT : numText a = Lib.decDigits a.toNat := if_pos h
    have HT := Lib.hid hT
    obtain ⟨h0, h1⟩ := h
    have hI := Tryd.strconv_Itoa a (by omega) (by omega) w htab
    have hi : (⟨(Lib.itoa a).toArray⟩ : ByteArray) = strOf (numText a) := by unfold Lib.itoa; rw [if_neg (by omega), hT]; rfl
    rw [hi] at hI
    have h2 : ¬ a < 0 := by omega
    have h3 : ¬ 999999999 < a := by omega
    clear hT hi HT
    go_enter Tryd.func50, Tryd.ntmps50
    go_wp2_with (go_at_call 75; refine hI.mono ?_; rintro e w1 ⟨rfl, k, os, rfl⟩)
    go_ret
    exact ⟨rfl, Lib.below_grow _ w (Nat.le_refl _) k os⟩
  · have hT : numText a = [] := if_neg h
    have HT := Lib.hid hT
    clear hT
    by_cases h0 : a < 0
    · clear h
      go_enter Tryd.func50, Tryd.ntmps50
      go_wp2_with fail
      go_ret
      exact ⟨by rw [HT.out]; rfl, Below.refl _ _⟩
    · have h1 : 999999999 < a := by omega
      clear h
      go_enter Tryd.func50, Tryd.ntmps50
      go_wp2_with fail
      go_ret
      exact ⟨by rw [HT.out]; rfl, Below.refl _ _⟩

end Go.Proofs.YtehmaacbmkfedaaDoor
