/-
  A row that is drawn.
-/
import Derived.Test.YtlmemjfinpccoaaDraw
namespace Go.Proofs.Ytlmemjfinpccoaa
open Go.RowKit

/-- A literal row, kept beside the reader's calls. -/
structure LitK (w : World) (B g : Nat) (f : Nat → Value) (n : Nat) : Prop where
  cell : ∀ j, j < n → w.cell? ⟨g, j, none⟩ = some (f j)
  lt : g < w.heap.size
  ne : g ≠ B
theorem LitK.grown {w w' : World} {B g n : Nat} {f : Nat → Value} (h : LitK w B g f n) (hg : w.grownBy w' (some B)) : LitK w' B g f n :=
  ⟨fun j hj => (World.cell?_of_block (a := ⟨g, j, none⟩) (hg.block g h.lt (by simp; exact h.ne))).trans (h.cell j hj), Nat.lt_of_lt_of_le h.lt hg.size, h.ne⟩
theorem LitK.new (w : World) {B n : Nat} (f : Nat → Value) (xs : Array Value) (T : TypeId) (h : ∀ j, j < n → xs[j]? = some (f j)) (hB : B < w.heap.size) : LitK (w.alloc (.cells xs T)) B w.heap.size f n :=
  ⟨fun j hj => by rw [World.cell?_alloc_mark]; exact h j hj, by rw [World.size_alloc]; omega, by omega⟩

/-- A number is drawn between two. -/
def DrawnN (w0 w : World) (B : Nat) (A : Option Addr) (m cap lim : Nat) (lo hi : Int) (r : Ending) (w' : World) : Prop :=
  ∃ x : Int, lo ≤ x ∧ x ≤ hi ∧ r = .returned (.int .i64 x) ∧ (∃ k, k ≤ lim ∧ IsRd w0 w' B A m cap k) ∧ w.grownBy w' (some B)

def rowLit : Nat → Int
  | 0 => -1
  | 1 => 0
  | 2 => 3
  | 3 => 7
  | 4 => 64
  | _ => 63
theorem rowLit_at (j : Nat) (hj : j < 6) : (#[.int .i64 (-1), .int .i64 0, .int .i64 3, .int .i64 7, .int .i64 64, .int .i64 63] : Array Value)[j]? = some (.int .i64 (rowLit j)) := by
  match j, hj with
  | 0, _ => rfl
  | 1, _ => rfl
  | 2, _ => rfl
  | 3, _ => rfl
  | 4, _ => rfl
  | 5, _ => rfl
theorem rowLit_in (j : Nat) (hj : j < 6) : -1 ≤ rowLit j ∧ rowLit j ≤ 64 := by
  match j, hj with
  | 0, _ => decide
  | 1, _ => decide
  | 2, _ => decide
  | 3, _ => decide
  | 4, _ => decide
  | 5, _ => decide

set_option maxHeartbeats 1000000 in
theorem draw_row (w0 w : World) (B : Nat) (A : Option Addr) (m cap pk : Nat) (hr : IsRd w0 w B A m cap pk) (hpk : pk ≤ 900000) :
    Calls Try.prog 79 #[.pointer (some ⟨B, 0, none⟩)] w (DrawnN w0 w B A m cap (pk + 2) (-1) 64) := by
  have hC := pick_rd w0 w B A m cap pk 8 hr (by omega) (by omega) (by omega)
  go_enter Try.func79, Try.ntmps79
  go_upto_if 5 with (go_at_call 78; refine hC.mono ?_; rintro r w1 ⟨x, x0, x1, rfl, hr1, g1⟩)
  clear hC
  by_cases hx : x = 0
  · subst hx
    have hL := LitK.new w1 (fun j => .int .i64 (rowLit j)) _ 3 rowLit_at hr1.lt
    have hC := pick_rd w0 (w1.alloc (.cells #[.int .i64 (-1), .int .i64 0, .int .i64 3, .int .i64 7, .int .i64 64, .int .i64 63] 3)) B A m cap (pk + 1) 6 (hr1.alloc _) (by omega) (by omega) (by omega)
    go_wp2_with (go_at_call 78; refine hC.mono ?_; rintro r w2 ⟨y, y0, y1, rfl, hr2, g2⟩; obtain ⟨j, rfl⟩ : ∃ j : Nat, y = (j : Int) := ⟨y.toNat, by omega⟩; have hj : j < 6 := (by omega); have hc := (hL.grown g2).cell j hj)
    go_ret
    exact ⟨rowLit j, (rowLit_in j hj).1, (rowLit_in j hj).2, rfl, ⟨_, Nat.le_refl _, hr2⟩, (grown_trans g1 (World.grownBy_alloc w1 _ _)).trans g2⟩
  · have hxb : (x == 0) = false := by simpa using hx
    have hC := pick_rd w0 w1 B A m cap (pk + 1) 12 hr1 (by omega) (by omega) (by omega)
    go_wp2_with (go_at_call 78; refine hC.mono ?_; rintro r w2 ⟨y, y0, y1, rfl, hr2, g2⟩; have hw := IntWalk.i64_in (8 + y) (by omega))
    go_ret
    exact ⟨8 + y, by omega, by omega, rfl, ⟨_, Nat.le_refl _, hr2⟩, g1.trans g2⟩
end Go.Proofs.Ytlmemjfinpccoaa
