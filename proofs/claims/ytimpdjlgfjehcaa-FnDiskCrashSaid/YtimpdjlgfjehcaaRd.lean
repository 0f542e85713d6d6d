/-
  What is read from a disk, as the model reads it.
-/
import Derived.Test.YtimpdjlgfjehcaaMB
namespace Go.Proofs.Ytimpdjlgfjehcaa
open Go.RowKit

def RdPost (s : ByteArray) (w : World) (r : Ending) (w' : World) : Prop := r = .returned (.string s) ∧ Below w.heap.size w w'

def readPost (d : Dk) (n : Int) (w : World) (r : Ending) (w' : World) : Prop := r = .returned (.tuple #[.string (readD d n).1, .bool (readD d n).2]) ∧ Below w.heap.size w w'
theorem readD_yes {d : Dk} {n : Int} (h : DkOk d) (hg : d.gone = false) (hn : 0 ≤ n ∧ n ≤ 63) : readD d n = (latest d n, true) := if_pos ⟨h, hg, hn⟩
theorem readD_no {d : Dk} {n : Int} (h : ¬ (DkOk d ∧ d.gone = false ∧ 0 ≤ n ∧ n ≤ 63)) : readD d n = (none8, false) := if_neg h
theorem readPost.no {d : Dk} {n : Int} {w w' : World} (h : ¬ (DkOk d ∧ d.gone = false ∧ 0 ≤ n ∧ n ≤ 63)) (hb : Below w.heap.size w w') : readPost d n w (.returned (.tuple #[.string ⟨#[]⟩, .bool false])) w' := by
  refine ⟨?_, hb⟩
  rw [readD_no h]
  rfl
theorem readPost.yes {d : Dk} {n : Int} {w w' : World} (h : DkOk d) (hg : d.gone = false) (hn : 0 ≤ n ∧ n ≤ 63) (hb : Below w.heap.size w w') : readPost d n w (.returned (.tuple #[.string (latest d n), .bool true])) w' := by
  refine ⟨?_, hb⟩
  rw [readD_yes h hg hn]

end Go.Proofs.Ytimpdjlgfjehcaa
