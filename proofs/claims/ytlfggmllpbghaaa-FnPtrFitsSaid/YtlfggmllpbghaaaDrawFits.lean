/-
  DrawPtrFits draws a pointer and a text; a row of bytes that may be written.
-/
import Derived.Test.YtlfggmllpbghaaaDrawOf
import Derived.Test.YtlfggmllpbghaaaSumMath
import Derived.Lib.ConvBytes
import Derived.Lib.AtoiErrMem
namespace Go.Proofs.Ytlfggmllpbghaaa
open Go.RowKit
set_option linter.unusedVariables false

/-- Block g holds the bytes l, and they may be written. -/
structure BRow (w : World) (g : Nat) (l : List UInt8) : Prop where
  lt : g < w.heap.size
  cell : ∀ (j : Nat) (h : j < l.length), w.cell? ⟨g, j, none⟩ = some (.int .u8 (l[j].toNat : Int))
  free : ∀ j, j < l.length → w.frozen? ⟨g, j, none⟩ = false

theorem BRow.made (w : World) (s : ByteArray) : BRow (Lib.bytesWorld w 5 s) w.heap.size s.data.toList := by
  refine ⟨by rw [Lib.bytesWorld_size]; omega, fun j h => ?_, fun j h => ?_⟩
  · have hj : j < s.size := by simpa using h
    rw [Lib.bytesWorld_cell w 5 s j hj]
    have hd : j < s.data.size := hj
    simp [List.getD, Array.getElem?_eq_getElem hd]
  · have hj : j < s.size := by simpa using h
    have hs : s.size ≤ (Lib.bytesCells w 5 s).size := by simp [Lib.bytesCells]
    simp only [World.frozen?, Lib.bytesWorld_at_new]
    simp
    omega
theorem BRow.set {w : World} {g : Nat} {l : List UInt8} (h : BRow w g l) (k : Nat) (hk : k < l.length) (c : UInt8) : BRow (w.setCell ⟨g, k, none⟩ (.int .u8 (c.toNat : Int))) g (l.set k c) := by
  refine ⟨by have := h.lt; simpa [World.setCell] using this, fun j hj => ?_, fun j hj => ?_⟩
  · simp only [List.length_set] at hj
    by_cases e : k = j
    · subst e
      rw [World.cell?_setCell_same' _ _ _ (by rw [h.cell k hk]; rfl)]
      simp
    · rw [World.cell?_setCell_other _ _ _ _ (by intro e2; injection e2 with _ e3; exact e e3), h.cell j hj]
      simp [e]
  · simp only [List.length_set] at hj
    rw [World.frozen?_setCell]
    exact h.free j hj
theorem BRow.conv {w : World} {g : Nat} {l : List UInt8} (h : BRow w g l) (c : Nat) : (convert 22 9 (.slice (some ⟨g, 0, none⟩) l.length c)).run Try.prog w = .ok (.string (strOf l)) w := by
  have hr := run_convert_bytes_arg (P := Try.prog) w 22 5 Try.underlying22 Try.underlying5 g 0 l.length c (l.map fun c => (c.toNat : Int)) (by simp) (fun i hi => by
    rw [Nat.zero_add, h.cell i hi]
    simp [List.getD, hi]) 9 Try.underlying9
  rw [hr, strOf_nums]


def FitsPost (w : World) (r : Ending) (w' : World) : Prop :=
  ∃ (a b c d e : Int) (s : ByteArray), r = .returned (.tuple #[.agg #[.int .i64 a, .int .i64 b, .int .i64 c, .int .i64 d, .int .i64 e], .string s]) ∧ s.size ≤ 1000 ∧ Below w.heap.size w w'

set_option maxRecDepth 100000 in
set_option maxHeartbeats 2000000 in
theorem draw_fits (A : Option Addr) (n cap : Nat) (w : World) (hn : n ≤ cap) (hA : BytesAt w A n) :
    Calls Try.prog 15 #[.slice A n cap] w (FitsPost w) := by
  have hO := fun (o : Obj) => open_rd A n cap (w.alloc o) hn (bytes_at_below hA (bel_new (Below.refl _ _) _))
  go_enter Try.func15, Try.ntmps15
  go_wp2_with (go_at_call 22; refine (hO _).mono ?_; rintro e w1 ⟨A1, m, c1, B, rfl, hr⟩; refine Hid.out ?_)
  refine Lib.hid ?_
  have hP := ptr_rd _ w1 B A1 m c1 0 hr (by omega)
  clear hO hr
  go_wp2_with (go_at_call 32; refine hP.mono ?_; rintro r w2 ⟨a, b, c, d, e, p2, rfl, h2, hp2⟩; refine Hid.out ?_)
  refine Lib.hid ?_
  clear hP
  have hRB : w.heap.size ≠ B := by have := h2.old; simp at this; omega
  have hPB : w2.heap.size ≠ B := by have := h2.lt; omega
  have hP0 : w.heap.size ≤ w2.heap.size := by have := h2.bel.size; simp at this; omega
  have hRP : w.heap.size ≠ w2.heap.size := by have := h2.bel.size; simp at this; omega
  have bR := (Box.new w 0 0 0 0 0).below h2.bel
  have hB := fun (o : Obj) => block_gr _ (w2.alloc o) B A1 m c1 p2 (h2.alloc o) (by omega)
  clear h2
  go_wp2_with (go_at_call 25; refine (hB _).mono ?_; rintro r w3 ⟨s, p3, rfl, hs, h3, hp3, g3⟩; refine Hid.out ?_)
  refine Lib.hid ?_
  have bP := (Box.new w2 a b c d e).grown g3 hPB
  have bR := (bR.alloc _).grown g3 hRB
  have hK := pick_rd _ w3 B A1 m c1 p3 3 h3 (by omega) (by omega) (by omega)
  clear hB g3 h3
  go_wp2_with (go_at_call 24; refine hK.mono ?_; rintro r w4 ⟨x, x0, x1, rfl, h4, g4⟩; refine Hid.out ?_)
  refine Lib.hid ?_
  have bP := bP.grown g4 hPB
  have bR := bR.grown g4 hRB
  have hb := bel_then (bel_new (Below.refl _ w) _) h4.bel
  clear hK g4 h4
  obtain ⟨⟨r0, r1, r2, r3, r4⟩, t0, t1, t2, t3, t4⟩ := bR.cells
  obtain ⟨⟨u0, u1, u2, u3, u4⟩, v0, v1, v2, v3, v4⟩ := bP.cells
  clear bR bP
  by_cases hx : 0 < x
  · have hS := fun W => spec_sum s W (by unfold maxLen; omega)
    obtain ⟨z, hz⟩ : ∃ z, z = sumT s.data.toList := ⟨_, rfl⟩
    rw [← hz] at hS
    clear hz
    go_wp2_with (go_at_call 29; refine (hS _).mono ?_; rintro r w5 ⟨rfl, rfl⟩)
    refine bodyPost_ret (v := .tuple #[.agg #[.int .i64 a, .int .i64 b, .int .i64 s.size, .int .i64 z, .int .i64 e], .string s]) (by simp [results, Try.f15, go_sem, *]) rfl ⟨a, b, s.size, z, e, s, rfl, hs, ?_⟩
    exact (((((((hb.setCell (p := ⟨w2.heap.size, 2, none⟩) hP0 _).setCell (p := ⟨w2.heap.size, 3, none⟩) hP0 _).setCell (p := ⟨w.heap.size, 0, none⟩) (Nat.le_refl _) _).setCell (p := ⟨w.heap.size, 1, none⟩) (Nat.le_refl _) _).setCell (p := ⟨w.heap.size, 2, none⟩) (Nat.le_refl _) _).setCell (p := ⟨w.heap.size, 3, none⟩) (Nat.le_refl _) _).setCell (p := ⟨w.heap.size, 4, none⟩) (Nat.le_refl _) _)
  · go_wp2_with fail
    refine bodyPost_ret (v := .tuple #[.agg #[.int .i64 a, .int .i64 b, .int .i64 c, .int .i64 d, .int .i64 e], .string s]) (by simp [results, Try.f15, go_sem, *]) rfl ⟨a, b, c, d, e, s, rfl, hs, ?_⟩
    exact (((((hb.setCell (p := ⟨w.heap.size, 0, none⟩) (Nat.le_refl _) _).setCell (p := ⟨w.heap.size, 1, none⟩) (Nat.le_refl _) _).setCell (p := ⟨w.heap.size, 2, none⟩) (Nat.le_refl _) _).setCell (p := ⟨w.heap.size, 3, none⟩) (Nat.le_refl _) _).setCell (p := ⟨w.heap.size, 4, none⟩) (Nat.le_refl _) _)

end Go.Proofs.Ytlfggmllpbghaaa
