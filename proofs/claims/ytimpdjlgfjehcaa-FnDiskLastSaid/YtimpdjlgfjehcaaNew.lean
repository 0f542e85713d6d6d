/-
  New disks, and disks that are gone.
-/
import Derived.Test.YtimpdjlgfjehcaaMB
namespace Go.Proofs.Ytimpdjlgfjehcaa
open Go.RowKit

def SlPost (t : TypeId) (cs : List ByteArray) (w : World) (r : Ending) (w' : World) : Prop :=
  ∃ g, r = .returned (.slice (some ⟨g, 0, none⟩) 64 64) ∧ w'.ownsRow w.heap.size t 1 (.slice (some ⟨g, 0, none⟩) 64 64) 64 (strCells cs) ∧ Below w.heap.size w w'
theorem own_new {w : World} {t : TypeId} {cs : List ByteArray} (h : cs.length = 64) : (w.alloc (.cells (strCells cs).toArray t)).ownsRow w.heap.size t 1 (.slice (some ⟨w.heap.size, 0, none⟩) 64 64) 64 (strCells cs) := by
  refine ⟨by rw [strCells_len, h], .inr ⟨w.heap.size, 64, (strCells cs).toArray, rfl, Nat.le_refl _, heap_alloc_new w _, Nat.le_refl _, by unfold maxLen; omega, by simp [strCells, h], ?_⟩⟩
  rw [List.take_of_length_le (by simp [strCells, h])]
set_option maxRecDepth 100000 in
set_option maxHeartbeats 2000000 in
theorem list_any (cs : List ByteArray) (w : World) (h : cs.length = 64) :
    Calls Try.prog 26 #[.agg (strCells cs).toArray] w (SlPost 51 cs w) := by
  have ho := own_new (w := w) (t := 51) h
  obtain ⟨ca, hca⟩ : ∃ ca, ca = (strCells cs).toArray := ⟨_, rfl⟩
  rw [← hca] at ho ⊢
  clear hca
  go_enter Try.func26, Try.ntmps26
  go_wp2
  go_ret
  exact ⟨_, rfl, ho, bel_new (Below.refl _ _) _⟩

theorem blank_strs : strCells newD.cells = List.replicate 64 (Value.string ⟨#[]⟩) := by
  show List.map Value.string (List.replicate 64 none8) = _
  rw [List.map_replicate]
  rfl
set_option maxRecDepth 100000 in
set_option maxHeartbeats 2000000 in
theorem spec_new (w : World) : Calls Try.prog 39 #[] w (DPost newD w) := by
  obtain ⟨i0, hi, hz0, hz1, hz2⟩ := info_parts Try.info9
  have hle := Nat.le_refl w.heap.size
  have b0 := Bx.new w 26 (.slice none 0 0) (.slice none 0 0) (.bool false)
  go_enter Try.func39, Try.ntmps39
  go_wp2_with (refine wpList_make_full _ rfl _ _ 23 rfl (w.heap.size + 1) 9 i0 (.string ⟨#[]⟩) 1 Try.underlying23 hi hz0 hz1 _ _ _ _ 64 rfl rfl rfl rfl (by rw [hz2]; omega) (by unfold maxLen; omega) (by simp) ?_; intro w1 hown hgrow; rw [made_strs] at hown; have b1 : Bx w1 w.heap.size 26 (.slice none 0 0) (.slice none 0 0) (.bool false) := (hgrow.block w.heap.size (by simp) (by simp)).trans b0; have b2 := b1.alloc (.cells #[] 32); obtain ⟨⟨y0, y1, y2⟩, f0, f1, f2⟩ := b2.cells)
  have p2 := own_base (base' := w.heap.size + 1) (hown.alloc (.cells #[] 32)) (Nat.le_refl _)
  rw [World.size_alloc, ← blank_strs] at p2
  have p3 := World.ownsRow_made (e := 32) (size := 2) (base := w.heap.size + 1) w1 #[] 0 (by have := hgrow.size; simpa using this) (Nat.zero_le _) rfl
  have ow : DkOwn (w1.alloc (.cells #[] 32)) (w.heap.size + 1) (.agg #[.slice (some ⟨w.heap.size + 1, 0, none⟩) 64 64, .slice (some ⟨w1.heap.size, 0, none⟩) 0 0, .bool false]) newD := ⟨9, _, _, rfl, .inl rfl, p2, p3⟩
  have B2 : Below w.heap.size w (w1.alloc (.cells #[] 32)) := bel_new ((bel_new (Below.refl w.heap.size w) _).grown hgrow (by simp) (fun k e => by cases e)) _
  exact bodyPost_ret (v := .agg #[.slice (some ⟨w.heap.size + 1, 0, none⟩) 64 64, .slice (some ⟨w1.heap.size, 0, none⟩) 0 0, .bool false]) (by simp [results, Try.f39, go_sem, y0, y1, y2]) rfl ⟨some ⟨w.heap.size + 1, 0, none⟩, 64, some ⟨w1.heap.size, 0, none⟩, 0, rfl, (ow.box (R := w.heap.size) (by omega) _ _ _).base (by omega), bel_box B2 hle _ _ _⟩

theorem own_gone {w : World} {base : Nat} {A B : Option Addr} {c e : Nat} (h : DkOwn w base (.agg #[.slice A newD.cells.length c, .slice B newD.waits.length e, .bool newD.gone]) newD) : DkOwn w base (.agg #[.slice A loseD.cells.length c, .slice B loseD.waits.length e, .bool true]) loseD := by
  obtain ⟨t, u1, u2, hv, ht, h1, h2⟩ := h
  injection hv with hv
  injection hv with hv
  injection hv with e1 hv
  injection hv with e2 hv
  subst e1; subst e2
  exact ⟨t, _, _, rfl, ht, h1, h2⟩

set_option maxRecDepth 100000 in
set_option maxHeartbeats 2000000 in
theorem spec_lose (w : World) : Calls Try.prog 38 #[] w (DPost loseD w) := by
  have hN := fun w => spec_new w
  have hle := Nat.le_refl w.heap.size
  obtain ⟨n, hn⟩ : ∃ n, n = newD.cells.length := ⟨_, rfl⟩
  obtain ⟨m, hm⟩ : ∃ n, n = newD.waits.length := ⟨_, rfl⟩
  go_enter Try.func38, Try.ntmps38
  go_wp2_with (go_at_call 39; refine (hN _).mono ?_; rintro r w2 ⟨A, c, B, e, rfl, o2, hb2⟩; have ow := own_gone o2; obtain ⟨⟨y0, y1, y2⟩, f0, f1, f2⟩ := ((Bx.new w 26 (.slice none 0 0) (.slice none 0 0) (.bool false)).below hb2).cells; have s2 : w.heap.size < w2.heap.size := (by have := hb2.size; simp at this; omega); rw [show newD.cells.length = loseD.cells.length from rfl, show newD.waits.length = loseD.waits.length from rfl])
  have p2 := ow.base (base' := w.heap.size + 1) (by simp)
  have B2 := bel_then (bel_new (Below.refl w.heap.size w) _) hb2
  have q2 := (p2.box (R := w.heap.size) (by omega) (.slice A loseD.cells.length c) (.slice B loseD.waits.length e) (.bool true)).below ((Below.refl _ _).alloc (Nat.le_refl _) (.cells #[.slice A loseD.cells.length c, .slice B loseD.waits.length e, .bool true] 26))
  exact bodyPost_ret (v := .agg #[.slice A loseD.cells.length c, .slice B loseD.waits.length e, .bool true]) (by simp [results, Try.f38, go_sem, y0, y1, y2, s2, size_set]) rfl ⟨_, _, _, _, rfl, q2.base (by omega), bel_new (bel_box B2 hle _ _ _) _⟩
end Go.Proofs.Ytimpdjlgfjehcaa
