/-
  StripeJoin of the model, at whatever it is called with.
-/
import Derived.Test.YtohfadgbmlfcmaaJoinS
import Derived.Test.YtohfadgbmlfcmaaJoinA
import Derived.Test.YtohfadgbmlfcmaaJoinB
import Derived.Test.YtohfadgbmlfcmaaJoinC
namespace Go.Proofs.Ytohfadgbmlfcmaa
open Go.RowKit

theorem spec_join (A : Option Addr) (c : Nat) (ss : List ByteArray) (size lost : Int) (w : World) (hn : ss.length ≤ maxLen) (hs : ∀ s ∈ ss, s.size ≤ maxLen) (hA : Lies w A (strCells ss)) :
    Calls Try.prog 15 #[.slice A ss.length c, .int .i64 size, .int .i64 lost] w (JoinPost ss size lost w) := by
  by_cases h : ss.length = 3 ∧ (1 ≤ size ∧ size ≤ 128) ∧ (-1 ≤ lost ∧ lost ≤ 1)
  · obtain ⟨h3, ⟨h1, h2⟩, hl⟩ := h
    match ss, h3 with
    | [x0, x1, x2], _ =>
      obtain ⟨n, rfl⟩ : ∃ n : Nat, size = (n : Int) := ⟨size.toNat, by omega⟩
      obtain ⟨b, off, rfl, ht⟩ := Three.of hA
      have hs' : x0.size ≤ maxLen ∧ x1.size ≤ maxLen ∧ x2.size ≤ maxLen := ⟨hs x0 (by simp), hs x1 (by simp), hs x2 (by simp)⟩
      rcases (show lost = -1 ∨ lost = 0 ∨ lost = 1 by omega) with rfl | rfl | rfl
      · exact spec_a b off c x0 x1 x2 n w (by omega) (by omega) hs' ht
      · exact spec_b b off c x0 x1 x2 n w (by omega) (by omega) hs' ht
      · exact spec_c b off c x0 x1 x2 n w (by omega) (by omega) hs' ht
  · exact spec_join_bad A c ss size lost w hn h
end Go.Proofs.Ytohfadgbmlfcmaa
