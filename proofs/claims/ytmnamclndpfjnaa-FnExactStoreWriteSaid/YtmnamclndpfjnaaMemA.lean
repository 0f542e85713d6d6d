/-
  Space in memory: the marks of a law, from any number on.
-/
import Derived.Test.YtmnamclndpfjnaaMem
namespace Go.Proofs.Ytmnamclndpfjnaa
open Go.RowKit

/-- A space with its marks. -/
def markSA (a : Int) (s : Sp) : Sp := ⟨marks a s.refs.length, marks (a + (s.refs.length : Int)) s.last.length⟩
theorem markSA_1 (a : Int) (s : Sp) : (markSA a s).refs.length = s.refs.length := by simp [markSA, marks_len]
theorem markSA_2 (a : Int) (s : Sp) : (markSA a s).last.length = s.last.length := by simp [markSA, marks_len]

set_option maxHeartbeats 1000000 in
theorem mark_spaceA (base top : Nat) (A B : Option Addr) (c e : Nat) (s : Sp) (w : World) (a : Int) (ha : 1 ≤ a) (ha2 : a ≤ 2000000) (hn : s.refs.length ≤ 1048576) (hm : s.last.length ≤ 1048576) (htop : top ≤ w.heap.size) (h : SpIn w base top (.agg #[.slice A s.refs.length c, .slice B s.last.length e]) s) :
    Calls Try.prog 40 #[.agg #[.slice A s.refs.length c, .slice B s.last.length e], .int .i64 a] w fun r w' => r = .returned (.int .i64 (a + (s.refs.length : Int) + (s.last.length : Int))) ∧ SpIn w' base top (.agg #[.slice A s.refs.length c, .slice B s.last.length e]) (markSA a s) ∧ Only base top w w' := by
  obtain ⟨u1, u2, e0, ⟨h1, t1⟩, ⟨h2, t2⟩, hne⟩ := h
  simp only [Value.agg.injEq, Array.mk.injEq, List.cons.injEq, and_true] at e0
  obtain ⟨rfl, rfl⟩ := e0
  have hS := fun W hW => mark_ints base A c s.refs a W (by omega) (by omega) hW
  have hT := fun W hW => mark_ints base B e s.last (a + (s.refs.length : Int)) W (by omega) (by omega) hW
  have r1 : ∀ k, (Value.slice A s.refs.length c).ownBlock = some k → base ≤ k ∧ k < top := fun k hk => ⟨(h1.lt k hk).1, t1 k hk⟩
  have r2 : ∀ k, (Value.slice B s.last.length e).ownBlock = some k → base ≤ k ∧ k < top := fun k hk => ⟨(h2.lt k hk).1, t2 k hk⟩
  have f1 : ∀ k, (Value.slice A s.refs.length c).ownBlock = some k → k < w.heap.size := fun k hk => (h1.lt k hk).2
  have hne1 : (Value.slice B s.last.length e).ownBlock = none ∨ (Value.slice B s.last.length e).ownBlock ≠ (Value.slice A s.refs.length c).ownBlock := by
    cases e1 : (Value.slice A s.refs.length c).ownBlock with
    | none =>
      cases e2 : (Value.slice B s.last.length e).ownBlock with
      | none => exact .inl rfl
      | some k => exact .inr (by simp)
    | some k => exact .inr (hne k e1)
  have hne2 : (Value.slice A s.refs.length c).ownBlock = none ∨ (Value.slice A s.refs.length c).ownBlock ≠ (Value.slice B s.last.length e).ownBlock := by
    cases e1 : (Value.slice A s.refs.length c).ownBlock with
    | none => exact .inl rfl
    | some k => exact .inr fun e2 => hne k e1 e2.symm
  have fin : ∀ W : World, W.ownsRow base 3 1 (.slice A s.refs.length c) s.refs.length (intCells (marks a s.refs.length)) → W.ownsRow base 3 1 (.slice B s.last.length e) s.last.length (intCells (marks (a + (s.refs.length : Int)) s.last.length)) → SpIn W base top (.agg #[.slice A s.refs.length c, .slice B s.last.length e]) (markSA a s) := fun W k1 k2 =>
    ⟨_, _, rfl, ⟨by rw [markSA_1]; exact k1, t1⟩, ⟨by rw [markSA_2]; exact k2, t2⟩, hne⟩
  have FIN := Lib.hid fin
  have HNE := Lib.hid hne1
  have HNE2 := Lib.hid hne2
  clear fin hne hne1 hne2
  go_enter Try.func40, Try.ntmps40
  go_wp2_with (first
    | (go_at_call 81
       ((with_reducible refine (hS _ (h1.alloc _)).mono ?_)
        rintro r w2 ⟨rfl, o1, g1⟩
        have o2 := (h2.alloc _).kept g1 HNE.out
        have hc : ∀ o, w2.cell? ⟨w.heap.size, o, none⟩ = (w.alloc _).cell? ⟨w.heap.size, o, none⟩ := fun o => World.cell?_of_block (g1.block w.heap.size (by simp) (fun e => absurd (f1 _ e.symm) (Nat.lt_irrefl _)))))
    | (go_at_call 81
       refine (hT _ o2).mono ?_
       rintro r w3 ⟨rfl, o3, g3⟩))
  go_ret
  exact ⟨rfl, FIN.out _ (o1.kept g3 HNE2.out) o3, (Only.of_below (bel_new (Below.refl _ _) _)).trans ((Only.of_grown g1 r1).trans (Only.of_grown g3 r2))⟩

set_option maxHeartbeats 1000000 in
theorem held_spaceA (base : Nat) (A B : Option Addr) (c e : Nat) (s : Sp) (w : World) (a : Int) (ha : 1 ≤ a) (ha2 : a ≤ 2000000) (hn : s.refs.length ≤ 1048576) (hm : s.last.length ≤ 1048576) (h : SpOwn w base (.agg #[.slice A s.refs.length c, .slice B s.last.length e]) (markSA a s)) :
    Calls Try.prog 43 #[.agg #[.slice A s.refs.length c, .slice B s.last.length e], .int .i64 a] w fun r w' => r = .returned (.int .i64 (a + (s.refs.length : Int) + (s.last.length : Int))) ∧ Below w.heap.size w w' := by
  have hl := SpOwn.lies (s := markSA a s) (A := A) (B := B) (c := c) (e := e) (base := base) (w := w) (by rw [markSA_1, markSA_2]; exact h)
  have hS := fun W hW => held_ints A c s.refs.length a W (by omega) (by omega) (hl.1.below (w' := W) hW)
  have hT := fun W hW => held_ints B e s.last.length (a + (s.refs.length : Int)) W (by omega) (by omega) (hl.2.below (w' := W) hW)
  have nn1 : ¬ (a + (s.refs.length : Int)) < 0 := by omega
  have nn2 : ¬ (a + (s.refs.length : Int) + (s.last.length : Int)) < 0 := by omega
  clear h hl
  go_enter Try.func43, Try.ntmps43
  go_wp2_with (first
    | (go_at_call 82; ((with_reducible refine (hS _ (bel_new (Below.refl _ _) _)).mono ?_); rintro r w2 ⟨rfl, rfl⟩))
    | (go_at_call 82; refine (hT _ (bel_new (Below.refl _ _) _)).mono ?_; rintro r w3 ⟨rfl, rfl⟩))
  go_ret
  exact ⟨rfl, bel_new (Below.refl _ _) _⟩
end Go.Proofs.Ytmnamclndpfjnaa
