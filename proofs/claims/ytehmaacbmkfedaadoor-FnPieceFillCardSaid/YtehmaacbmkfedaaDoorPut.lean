/-
  PtrPut, both ways: they write the same text. The tables that strconv reads hold what the program's text lays.
-/
import Derived.Test.YtehmaacbmkfedaaDoorTextM
namespace Go.Proofs.YtehmaacbmkfedaaDoor
open Go.RowKit

def Tab (w : World) : Prop := Lib.TabBelow Tryd.prog w.heap.size w "internal/strconv.uint64pow10" .u64 Lib.pow10Tab
theorem Tab.at {W w : World} (h : Tab W) (hb : Below W.heap.size W w) : Tab w := fun w' hw => (h.on hb) w' (hw.mono hb.size)
def putT (a b c d e : Int) : List UInt8 := if isOk a b c d e = true then (if isHole a b c d e = true then [45] else joinB (numText a) (numText b) (numText c) (numText d) (numText e)) else []
theorem num_is (x : Int) (h : 0 ≤ x) (h2 : x ≤ 99460728) : numText x = Lib.decDigits x.toNat := by
  unfold numText
  rw [if_pos ⟨h, by omega⟩]

set_option maxHeartbeats 1000000 in
theorem spec_put (a b c d e : Int) (w : World) : Calls Tryd.prog 23 #[.agg #[.int .i64 a, .int .i64 b, .int .i64 c, .int .i64 d, .int .i64 e]] w fun r w' => r = .returned (.string (strOf (putT a b c d e))) ∧ Below w.heap.size w w' := by
  have hO := fun w => spec_ok a b c d e w
  by_cases hk : isOk a b c d e = true
  · by_cases hh : isHole a b c d e = true
    · have hp : putT a b c d e = [45] := by unfold putT; rw [if_pos hk, if_pos hh]
      have hM := fun w => spec_hole a b c d e w
      rw [hh] at hM
      rw [hk] at hO
      rw [hp]
      clear hh hk hp
      go_enter Tryd.func23, Tryd.ntmps23
      go_wp2_with (first | (go_at_call 43; refine (hO _).mono ?_; rintro r w' ⟨rfl, rfl⟩) | (go_at_call 44; refine (hM _).mono ?_; rintro r w' ⟨rfl, rfl⟩))
      go_ret
      exact ⟨rfl, (by repeat' (first | exact Below.refl _ _ | refine bel_new ?_ _ | refine Below.drew ?_))⟩
    · have hi : inAll a b c d e := by rw [isOk_inAll] at hk; simpa [hh] using hk
      have hp : putT a b c d e = joinB (Lib.decDigits a.toNat) (Lib.decDigits b.toNat) (Lib.decDigits c.toNat) (Lib.decDigits d.toNat) (Lib.decDigits e.toNat) := by
        unfold putT
        obtain ⟨h1, h2, h3, h4, h5⟩ := hi
        rw [if_pos hk, if_neg hh, num_is a (by omega) (by omega), num_is b (by omega) (by omega), num_is c (by omega) (by omega), num_is d (by omega) (by omega), num_is e (by omega) (by omega)]
      rw [hp]
      exact spec_text a b c d e w hi (by simpa using hh)
  · have hk' : isOk a b c d e = false := by simpa using hk
    have hp : putT a b c d e = [] := by unfold putT; rw [if_neg hk]
    rw [hk'] at hO
    rw [hp]
    clear hk hk' hp
    go_enter Tryd.func23, Tryd.ntmps23
    go_wp2_with (go_at_call 43; refine (hO _).mono ?_; rintro r w' ⟨rfl, rfl⟩)
    go_ret
    exact ⟨rfl, (by repeat' (first | exact Below.refl _ _ | refine bel_new ?_ _ | refine Below.drew ?_))⟩

end Go.Proofs.YtehmaacbmkfedaaDoor
