/-
  New space, and space written out of a map.
-/
import Derived.Test.YtmnamclndpfjnaaMem
import Derived.Test.YtmnamclndpfjnaaUL
import Derived.Deep.RegionLaw
namespace Go.Proofs.Ytmnamclndpfjnaa
open Go.RowKit

def z64 : Array Value := (intCells (List.replicate 64 0)).toArray
theorem make64 (w : World) : (Instr.makeSlice 23 (.int .i64 64) (.int .i64 64)).run Try.prog w = .ok (.slice (some ⟨w.heap.size, 0, none⟩) 64 64) (w.alloc (.cells z64 3)) := by kernel_rfl
theorem own_z64 (w : World) : (w.alloc (.cells z64 3)).ownsRow w.heap.size 3 1 (.slice (some ⟨w.heap.size, 0, none⟩) 64 64) 64 (intCells (List.replicate 64 0)) := by
  have hs : z64.size = 64 := by simp [z64, intCells]
  refine ⟨by rw [intCells_len]; simp, .inr ⟨w.heap.size, 64, z64, rfl, Nat.le_refl _, heap_alloc_new w _, Nat.le_refl _, by unfold maxLen; omega, by rw [hs], ?_⟩⟩
  have hz : z64.toList = intCells (List.replicate 64 0) := by simp [z64]
  rw [hz, List.take_of_length_le (by simp [intCells])]

theorem z_own (W : World) : SpOwn ((W.alloc (.cells z64 3)).alloc (.cells z64 3)) W.heap.size (.agg #[.slice (some ⟨W.heap.size, 0, none⟩) 64 64, .slice (some ⟨W.heap.size + 1, 0, none⟩) 64 64]) newS ∧
    SpOwn ((W.alloc (.cells z64 3)).alloc (.cells z64 3)) W.heap.size (.agg #[.slice (some ⟨W.heap.size + 1, 0, none⟩) 64 64, .slice (some ⟨W.heap.size, 0, none⟩) 64 64]) newS := by
  have h1 := (own_z64 W).alloc (.cells z64 3)
  have h2 := own_z64 (W.alloc (.cells z64 3))
  rw [World.size_alloc] at h2
  have h2 := own_base h2 (Nat.le_succ W.heap.size)
  constructor
  · refine ⟨_, _, rfl, h1, h2, fun k e1 e2 => ?_⟩
    simp only [Value.ownBlock, Option.some.injEq] at e1 e2
    omega
  · refine ⟨_, _, rfl, h2, h1, fun k e1 e2 => ?_⟩
    simp only [Value.ownBlock, Option.some.injEq] at e1 e2
    omega
theorem SPost.mk {s : Sp} {w w' : World} {A B : Option Addr} {c e n m : Nat} (hn : n = s.refs.length) (hm : m = s.last.length) (h1 : SpOwn w' w.heap.size (.agg #[.slice A n c, .slice B m e]) s) (h2 : Below w.heap.size w w') : SPost s w (.returned (.agg #[.slice A n c, .slice B m e])) w' := by
  subst hn hm
  exact ⟨A, c, B, e, rfl, h1, h2⟩
theorem SpOwn.drew {W : World} {base : Nat} {v : Value} {s : Sp} (h : SpOwn W base v s) : SpOwn W.drew base v s := h

set_option maxRecDepth 100000 in
set_option maxHeartbeats 2000000 in
theorem spec_new (w : World) : Calls Try.prog 34 #[] w (SPost newS w) := by
  have hmk := make64
  obtain ⟨Z, hZ⟩ : ∃ Z, Z = z64 := ⟨_, rfl⟩
  rw [← hZ] at hmk
  have HZ := Lib.hid hZ
  clear hZ
  go_enter Try.func34, Try.ntmps34
  go_wp2
  go_region
  all_goals
    go_wp2
    obtain rfl := HZ.out
    have h := fun X => z_own (w.alloc X)
    simp only [World.size_alloc] at h
  · exact bodyPost_ret (v := .agg #[.slice (some ⟨w.heap.size + 1, 0, none⟩) 64 64, .slice (some ⟨w.heap.size + 1 + 1, 0, none⟩) 64 64]) (by simp [results, Try.f34, go_sem]) rfl (SPost.mk rfl rfl (SpOwn.drew ((h _).1.base (Nat.le_succ _))) (bel_new (bel_new (bel_new (Below.refl _ _) _) _) _).drew)
  · exact bodyPost_ret (v := .agg #[.slice (some ⟨w.heap.size + 1 + 1, 0, none⟩) 64 64, .slice (some ⟨w.heap.size + 1, 0, none⟩) 64 64]) (by simp [results, Try.f34, go_sem]) rfl (SPost.mk rfl rfl (SpOwn.drew ((h _).2.base (Nat.le_succ _))) (bel_new (bel_new (bel_new (Below.refl _ _) _) _) _).drew)
end Go.Proofs.Ytmnamclndpfjnaa
