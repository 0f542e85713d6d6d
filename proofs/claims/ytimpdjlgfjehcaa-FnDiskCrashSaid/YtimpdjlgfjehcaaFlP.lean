/-
  What a power failure and a flush leave, as lists.
-/
import Derived.Test.YtimpdjlgfjehcaaSpC
namespace Go.Proofs.Ytimpdjlgfjehcaa
open Go.RowKit

theorem crash_valid {d : Dk} (h : DkOk d) (mask tear : Int) : DkOk ⟨st d.waits mask tear d.cells d.waits.length, [], d.gone⟩ := by
  obtain ⟨h64, h120, hg, hs, hw⟩ := h
  refine ⟨?_, Nat.zero_le _, fun hgo => ⟨rfl, ?_⟩, ?_, fun x hx => by cases hx⟩
  · show (st _ _ _ _ _).length = 64
    rw [st_len]
    exact h64
  · obtain ⟨h0, hc⟩ := hg hgo
    show ∀ s ∈ st d.waits mask tear d.cells d.waits.length, s.size = 0
    rw [h0]
    exact hc
  · exact st_small hs hw _
theorem crash_again {d : Dk} (h : DkOk d) (mask tear mask2 tear2 : Int) (h2 : 0 ≤ mask2) : crashD ⟨st d.waits mask tear d.cells d.waits.length, [], d.gone⟩ mask2 tear2 = ⟨st d.waits mask tear d.cells d.waits.length, [], d.gone⟩ := by
  rw [crashD_yes (crash_valid h mask tear) h2]
  rfl
theorem flush_flush (d : Dk) (h : DkOk d) : flushD (flushD d) = flushD d := by
  have e := flushD_yes h
  rw [e]
  exact crash_again h _ _ _ _ (by decide)
theorem flush_waits (d : Dk) : (flushD d).waits = [] := by
  unfold flushD crashD
  split <;> rfl
theorem flush_len {d : Dk} (h : DkOk d) : (flushD d).cells.length = 64 := by
  rw [flushD_yes h]
  show (st _ _ _ _ _).length = 64
  rw [st_len]
  exact h.1
theorem flush_none {d : Dk} (h : ¬ DkOk d) : (flushD d).cells.length = 0 := by
  rw [flushD_no h]
  rfl
theorem bulk_flush {d : Dk} (hd : Bulk d) : Bulk (flushD d) := by
  by_cases h : DkOk d
  · have hv := crash_valid h 1152921504606846975 (-1)
    rw [← flushD_yes h] at hv
    refine ⟨by rw [flush_len h]; decide, by rw [flush_waits]; decide, fun s hs => ?_, fun x hx => by rw [flush_waits] at hx; cases hx⟩
    have := hv.2.2.2.1 s hs
    unfold maxLen
    omega
  · rw [flushD_no h]
    exact ⟨Nat.zero_le _, Nat.zero_le _, (fun s hs => by cases hs), (fun x hx => by cases hx)⟩
end Go.Proofs.Ytimpdjlgfjehcaa
