/-
  FnExactPtrOf: its walk: both ways of making a pointer to a block agree.
-/
import Derived.Test.YtlfggmllpbghaaaPtr2
namespace Go.Proofs.Ytlfggmllpbghaaa
open Go.RowKit

theorem box_late {w w' : World} {vs : Array Value} {t : TypeId} (hb : Below (w.alloc (.cells vs t)).heap.size (w.alloc (.cells vs t)) w') (k : Nat) (v : Value) (h : vs[k]? = some v) : ∀ o, (w'.alloc o).cell? ⟨w.heap.size, k, none⟩ = some v := by
  intro o
  have hs := hb.size
  simp only [World.size_alloc] at hs
  rw [World.cell?_alloc_old _ _ _ (by show w.heap.size ≠ w'.heap.size; omega)]
  exact box_cell hb k v h

theorem walk_of (a b l : Int) (s : ByteArray) (w : World) : Calls Try.prog 7 #[.int .i64 a, .int .i64 b, .int .i64 l, .string s] w fun r w' => r = .returned (.bool true) ∧ Below w.heap.size w w' := by
  have hI0 := fun w => impl_of a b l s w
  have hS0 := fun w => spec_of a b l s w
  obtain ⟨p, q, m, x, y, o, hI, hS⟩ : ∃ (p q m x y : Int) (o : Bool), (∀ w, Calls Try.prog 10 #[.int .i64 a, .int .i64 b, .int .i64 l, .string s] w fun r w' => r = .returned (.tuple #[.agg #[.int .i64 p, .int .i64 q, .int .i64 m, .int .i64 x, .int .i64 y], .bool o]) ∧ Below w.heap.size w w') ∧
      (∀ w, Calls Try.prog 11 #[.int .i64 a, .int .i64 b, .int .i64 l, .string s] w fun r w' => r = .returned (.tuple #[.agg #[.int .i64 p, .int .i64 q, .int .i64 m, .int .i64 x, .int .i64 y], .bool o]) ∧ Below w.heap.size w w') := by
    by_cases hD : (1 ≤ (s.size : Int) ∧ (s.size : Int) ≤ 128) ∧ isOk a b s.size (sumT s.data.toList) l = true
    · exact ⟨a, b, s.size, sumT s.data.toList, l, true, fun w => (hI0 w).mono fun r w' ⟨hb, h⟩ => ⟨h.elim (fun h => h.2) (fun h => absurd hD h.1), hb⟩, fun w => (hS0 w).mono fun r w' ⟨hb, h⟩ => ⟨h.elim (fun h => h.2) (fun h => absurd hD h.1), hb⟩⟩
    · exact ⟨0, 0, 0, 0, 0, false, fun w => (hI0 w).mono fun r w' ⟨hb, h⟩ => ⟨h.elim (fun h => absurd h.1 hD) (fun h => h.2), hb⟩, fun w => (hS0 w).mono fun r w' ⟨hb, h⟩ => ⟨h.elim (fun h => absurd h.1 hD) (fun h => h.2), hb⟩⟩
  clear hI0 hS0
  have hq : (o != o) = false := by cases o <;> rfl
  by_cases hb : (1048576 : Int) < (s.size : Int)
  · go_enter Try.func7, Try.ntmps7
    go_wp2
    go_ret
    exact ⟨rfl, Below.refl _ _⟩
  · go_enter Try.func7, Try.ntmps7
    go_wp2_with (first | (go_at_call 11; refine (hS _).mono ?_; rintro r w1 ⟨rfl, hb1⟩) | (go_at_call 10; refine (hI _).mono ?_; rintro r w2 ⟨rfl, hb2⟩; have q0 := box_late hb2 0 _ rfl; have q1 := box_late hb2 1 _ rfl; have q2 := box_late hb2 2 _ rfl; have q3 := box_late hb2 3 _ rfl; have q4 := box_late hb2 4 _ rfl) | (go_at_call 21; refine (eq_ptr _ _ _ _ _ _).mono ?_; rintro r w3 ⟨rfl, rfl⟩))
    go_ret
    exact ⟨rfl, bel_new (bel_new (bel_new (bel_then (bel_new hb1 _) hb2) _) _) _⟩
end Go.Proofs.Ytlfggmllpbghaaa
