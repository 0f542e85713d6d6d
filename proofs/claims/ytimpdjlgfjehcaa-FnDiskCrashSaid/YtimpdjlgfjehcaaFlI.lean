/-
  DiskFlush, the program's.
-/
import Derived.Test.YtimpdjlgfjehcaaCrI
namespace Go.Proofs.Ytimpdjlgfjehcaa
open Go.RowKit

set_option maxRecDepth 100000 in
set_option maxHeartbeats 4000000 in
theorem impl_flush (A B : Option Addr) (c e : Nat) (d : Dk) (w : World) (hd : Bulk d) (hA : DkAt w A B d) :
    Calls Try.prog 19 #[.agg #[.slice A d.cells.length c, .slice B d.waits.length e, .bool d.gone]] w (DPost (flushD d) w) := by
  have K0 := TwoB.new w (.slice A d.cells.length c) (.slice B d.waits.length e) (.bool d.gone)
  have hle : w.heap.size ≤ w.heap.size + 1 := by omega
  have hC := fun W hW => impl_crash A B c e d 1152921504606846975 (-1) W hd (hA.below (w' := W) hW) (by decide)
  have hD : crashD d 1152921504606846975 (-1) = flushD d := rfl
  rw [hD] at hC
  obtain ⟨D, hDD⟩ : ∃ D, D = flushD d := ⟨_, rfl⟩
  rw [← hDD] at hC ⊢
  have s0 := K0.2.2.2.2.2.2.2.2.2.2.1
  clear hD hDD hA hd
  go_enter Try.func19, Try.ntmps19
  go_wp2_with (go_at_call 7; refine (hC _ K0.one.2.2.2).mono ?_; rintro r w2 ⟨A5, c5, B5, e5, rfl, o5, hb2⟩; have K5 := K0.next hb2; obtain ⟨x0, x1, x2, y0, y1, y2, f0, f1, f2, _⟩ := id K5)
  exact bodyPost_ret (v := .agg #[.slice A5 D.cells.length c5, .slice B5 D.waits.length e5, .bool D.gone]) (by simp [results, Try.f19, go_sem, y0, y1, y2]) rfl (DPost.mk ((o5.box (R := w.heap.size + 1) (by omega) _ _ _).base (by omega)) (bel_box K5.one.2.2.2 hle _ _ _))
end Go.Proofs.Ytimpdjlgfjehcaa
