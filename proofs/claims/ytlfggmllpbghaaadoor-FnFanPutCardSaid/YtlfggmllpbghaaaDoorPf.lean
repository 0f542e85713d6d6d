/-
  pfPtrs: two lists of the same pointers compare as equal; so do two empty ones.
-/
import Derived.Test.YtlfggmllpbghaaaDoorPtrsTo
import Derived.Deep.QuietTactic
import Derived.BigQuiet
namespace Go.Proofs.YtlfggmllpbghaaaDoor
open Go.RowKit
set_option linter.unusedVariables false

set_option maxRecDepth 100000 in
set_option maxHeartbeats 2000000 in
theorem pf_ptrs (g h cg ch : Nat) (ps : List P5) (w : World) (hn : ps.length ≤ 1048576) (hG : PtrsAt w g ps) (hH : PtrsAt w h ps) :
    Calls Tryd.prog 30 #[.slice (some ⟨g, 0, none⟩) ps.length cg, .slice (some ⟨h, 0, none⟩) ps.length ch] w fun e w' => e = .returned (.bool true) ∧ Below w.heap.size w w' := by
  have hq0 : ((ps.length : Int) != (ps.length : Int)) = false := by simp
  go_enter Tryd.func30, Tryd.ntmps30
  go_wp2
  go_loopw [5] (fun i wr => ∃ k : Nat, k ≤ ps.length ∧ i = .int .i64 k ∧ PtrsAt wr g ps ∧ PtrsAt wr h ps ∧ Below w.heap.size w wr) (fun i _ => ps.length - (intOf i).toNat)
  case atStart => exact ⟨0, Nat.zero_le _, rfl, hG, hH, Below.refl _ _⟩
  case round =>
    obtain ⟨k, hk, rfl, hg, hh, hb⟩ := hrel
    clear hG hH
    by_cases hlt : k < ps.length
    · obtain ⟨a, c, d, e, f, hp⟩ : ∃ a c d e f, ps[k] = ⟨a, c, d, e, f⟩ := ⟨_, _, _, _, _, rfl⟩
      have q1 := hg.cell k hlt hp
      have q2 := hh.cell k hlt hp
      obtain ⟨y0, y1, y2, y3, y4⟩ := id q1
      obtain ⟨z0, z1, z2, z3, z4⟩ := id q2
      clear hp
      go_wp2_with fail
      go_quiet (fail)
      go_wp2_with fail
      have W2 : Below wr.heap.size wr (wr.drewN nq) := below_drewN (Below.refl _ _) nq
      go_roundw
      case rel => exact ⟨k + 1, by omega, by go_num, hg.below W2, hh.below W2, bel_then hb W2⟩
      case measure => simp [intOf]; omega
    · have hke : k = ps.length := by omega
      subst hke
      go_wp2
      go_ret
      exact ⟨rfl, hb⟩

theorem pf_none (A A' : Option Addr) (c c' : Nat) (w : World) :
    Calls Tryd.prog 30 #[.slice A 0 c, .slice A' 0 c'] w fun e w' => e = .returned (.bool true) ∧ Below w.heap.size w w' := by
  go_enter Tryd.func30, Tryd.ntmps30
  go_wp2
  go_loopw [5] (fun i wr => i = .int .i64 0 ∧ Below w.heap.size w wr) (fun i _ => 0)
  case atStart => exact ⟨rfl, Below.refl _ _⟩
  case round =>
    obtain ⟨rfl, hb⟩ := hrel
    go_wp2
    go_ret
    exact ⟨rfl, hb⟩
end Go.Proofs.YtlfggmllpbghaaaDoor
