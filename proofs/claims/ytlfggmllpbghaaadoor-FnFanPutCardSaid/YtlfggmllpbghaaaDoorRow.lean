/-
  l91Ptr draws some pointer: five numbers, whatever they are.
-/
import Derived.Test.YtlfggmllpbghaaaDoorOf
import Derived.Laws.Rows
namespace Go.Proofs.YtlfggmllpbghaaaDoor
open Go.RowKit

structure Box (g : Nat) (a b c d e : Int) (W : World) : Prop where
  blk : W.heap[g]? = some (.cells #[.int .i64 a, .int .i64 b, .int .i64 c, .int .i64 d, .int .i64 e] 24 (0, 0))
theorem Box.new (w : World) (a b c d e : Int) : Box w.heap.size a b c d e (w.alloc (.cells #[.int .i64 a, .int .i64 b, .int .i64 c, .int .i64 d, .int .i64 e] 24)) := ⟨heap_alloc_new w _⟩
theorem Box.lt {g : Nat} {a b c d e : Int} {W : World} (h : Box g a b c d e W) : g < W.heap.size := (Array.getElem?_eq_some_iff.1 h.blk).1
theorem Box.alloc {g : Nat} {a b c d e : Int} {W : World} (h : Box g a b c d e W) (o : Obj) : Box g a b c d e (W.alloc o) := ⟨(Below.heap_alloc W o g h.lt).trans h.blk⟩
theorem Box.grown {g B : Nat} {a b c d e : Int} {W W' : World} (h : Box g a b c d e W) (hg : W.grownBy W' (some B)) (hne : g ≠ B) : Box g a b c d e W' := ⟨(hg.block g h.lt (fun e => hne (by cases e; rfl))).trans h.blk⟩
theorem Box.below {g : Nat} {a b c d e : Int} {W W' : World} (h : Box g a b c d e W) (hb : Below W.heap.size W W') : Box g a b c d e W' := ⟨(hb.block g h.lt).trans h.blk⟩
theorem Box.cells {g : Nat} {a b c d e : Int} {W : World} (h : Box g a b c d e W) :
    (W.cell? ⟨g, 0, none⟩ = some (.int .i64 a) ∧ W.cell? ⟨g, 1, none⟩ = some (.int .i64 b) ∧ W.cell? ⟨g, 2, none⟩ = some (.int .i64 c) ∧ W.cell? ⟨g, 3, none⟩ = some (.int .i64 d) ∧ W.cell? ⟨g, 4, none⟩ = some (.int .i64 e)) ∧
    (W.frozen? ⟨g, 0, none⟩ = false ∧ W.frozen? ⟨g, 1, none⟩ = false ∧ W.frozen? ⟨g, 2, none⟩ = false ∧ W.frozen? ⟨g, 3, none⟩ = false ∧ W.frozen? ⟨g, 4, none⟩ = false) := by
  have hb := h.blk
  simp [World.cell?, World.frozen?, hb]
theorem IsRd.set {w0 w : World} {B : Nat} {A : Option Addr} {m cap p : Nat} (h : IsRd w0 w B A m cap p) {g : Nat} (hg : w0.heap.size ≤ g) (hne : g ≠ B) (k : Nat) (v : Value) : IsRd w0 (w.setCell ⟨g, k, none⟩ v) B A m cap p :=
  ⟨(Below.heap_setCell w ⟨g, k, none⟩ v B (fun e => hne e.symm)).trans h.blk, h.bts, h.old, h.bel.setCell hg v, h.few⟩
theorem IsRd.below {w0 w w' : World} {B : Nat} {A : Option Addr} {m cap p : Nat} (h : IsRd w0 w B A m cap p) (hb : Below w.heap.size w w') : IsRd w0 w' B A m cap p :=
  ⟨(hb.block B h.lt).trans h.blk, h.bts, h.old, h.bel.trans (hb.mono h.bel.size), h.few⟩

def RowPost (w0 w : World) (B : Nat) (A : Option Addr) (m cap p : Nat) (e : Ending) (w' : World) : Prop :=
  ∃ (x : Int) (p' : Nat), e = .returned (.int .i64 x) ∧ IsRd w0 w' B A m cap p' ∧ p' ≤ p + 2 ∧ w.grownBy w' (some B)

theorem some_cell (w w' : World) (B : Nat) (cs : Array Value) (t : TypeId) (n j : Nat) (hn : cs.size = n) (hj : j < n) (hall : ∀ (i : Nat) (h : i < cs.size), ∃ c : Int, cs[i] = .int .i64 c) (hB : B < w.heap.size) (g : (w.alloc (.cells cs t)).grownBy w' (some B)) :
    ∃ c : Int, w'.cell? ⟨w.heap.size, j, none⟩ = some (.int .i64 c) := by
  rw [World.cell?_of_block (g.block w.heap.size (by simp) (by intro e; cases e; omega))]
  obtain ⟨c, hc⟩ := hall j (by omega)
  refine ⟨c, ?_⟩
  rw [World.cell?_alloc_mark, Array.getElem?_eq_getElem (by omega), hc]

set_option maxRecDepth 100000 in
set_option maxHeartbeats 1000000 in
theorem row_rd (w0 w : World) (B : Nat) (A : Option Addr) (m cap p : Nat) (h : IsRd w0 w B A m cap p) (hp : p ≤ 500000) :
    Calls Tryd.prog 60 #[.pointer (some ⟨B, 0, none⟩)] w (RowPost w0 w B A m cap p) := by
  have hK := pick_rd w0 w B A m cap p 8 h (by omega) (by omega) (by omega)
  go_enter Tryd.func60, Tryd.ntmps60
  go_wp2_with (go_at_call 49; refine hK.mono ?_; rintro e w1 ⟨x, x0, x1, rfl, h1, g1⟩; refine Hid.out ?_)
  refine Lib.hid ?_
  clear hK
  by_cases hx : x = 0
  · subst hx
    have hK2 := fun (o : Obj) => pick_rd w0 (w1.alloc o) B A m cap (p + 1) 6 (h1.alloc o) (by omega) (by omega) (by omega)
    go_wp2_with (go_at_call 49; refine (hK2 _).mono ?_; rintro e w2 ⟨u, u0, u1, rfl, h2, g2⟩; refine Hid.out ?_)
    refine Lib.hid ?_
    obtain ⟨j, rfl⟩ : ∃ j : Nat, u = (j : Int) := ⟨u.toNat, by omega⟩
    obtain ⟨c, hc⟩ := some_cell w1 w2 B _ _ 6 j rfl (by omega) (by intro i hi; match i, hi with | 0, _ => exact ⟨_, rfl⟩ | 1, _ => exact ⟨_, rfl⟩ | 2, _ => exact ⟨_, rfl⟩ | 3, _ => exact ⟨_, rfl⟩ | 4, _ => exact ⟨_, rfl⟩ | 5, _ => exact ⟨_, rfl⟩) h1.lt g2
    have G2 := (g1.trans (World.grownBy_alloc _ _ _)).trans g2
    clear hK2 g2 h1 g1
    go_wp2_with fail
    go_ret
    exact ⟨c, _, rfl, h2, by omega, G2⟩
  · have hx' : (x == 0) = false := by simpa using hx
    have hK2 := pick_rd w0 w1 B A m cap (p + 1) 12 h1 (by omega) (by omega) (by omega)
    go_wp2_with (go_at_call 49; refine hK2.mono ?_; rintro e w2 ⟨u, u0, u1, rfl, h2, g2⟩; refine Hid.out ?_)
    refine Lib.hid ?_
    have G2 := g1.trans g2
    have hw := IntWalk.i64_in (8 + u) (by omega)
    clear hK2 g2 h1 g1
    go_wp2_with fail
    go_ret
    exact ⟨_, _, rfl, h2, by omega, G2⟩

end Go.Proofs.YtlfggmllpbghaaaDoor
