/-
  DrawFanGet draws some short text.
-/
import Derived.Test.YtlfggmllpbghaaaDoorPtrDraw2
import Derived.Test.YtlfggmllpbghaaaDoorSpoil2
import Derived.Test.YtlfggmllpbghaaaDoorFanG
import Derived.Test.YtlfggmllpbghaaaDoorFanS
import Derived.Test.YtlfggmllpbghaaaDoorPtrsTo
namespace Go.Proofs.YtlfggmllpbghaaaDoor
open Go.RowKit
set_option linter.unusedVariables false

theorem rd_not_row5 {w0 w : World} {B : Nat} {A : Option Addr} {m cap p base n : Nat} {v : Value} {xs : List Value} (h : IsRd w0 w B A m cap p) (ho : w.ownsRow base 24 5 v n xs) : v.ownBlock ≠ some B := by
  rcases ho.2 with ⟨rfl, _⟩ | ⟨g, c, cur, rfl, _, hg, _⟩
  · simp [Value.ownBlock]
  · intro e
    simp only [Value.ownBlock, Option.some.injEq] at e
    subst e
    have := hg.symm.trans h.blk
    simp at this
theorem own_past5 {w0 w w' : World} {B : Nat} {A : Option Addr} {m cap p base n : Nat} {v : Value} {xs : List Value} (h : IsRd w0 w B A m cap p) (ho : w.ownsRow base 24 5 v n xs) (hg : w.grownBy w' (some B)) : w'.ownsRow base 24 5 v n xs :=
  ho.kept hg (.inr (rd_not_row5 h ho))
theorem IsRd.grown5 {w0 w w' : World} {B : Nat} {A : Option Addr} {m cap p base n : Nat} {v : Value} {xs : List Value} (h : IsRd w0 w B A m cap p) (ho : w.ownsRow base 24 5 v n xs) (hb : w0.heap.size ≤ base) (hg : w.grownBy w' v.ownBlock) : IsRd w0 w' B A m cap p :=
  ⟨(hg.block B h.lt (rd_not_row5 h ho).symm).trans h.blk, h.bts, h.old, h.bel.grown hg h.bel.size (fun k e => Nat.le_trans hb (ho.lt k e).1), h.few⟩
theorem flat_snoc (ps : List P5) (a b c d e : Int) : flat (ps ++ [⟨a, b, c, d, e⟩]) = flat ps ++ [.int .i64 a, .int .i64 b, .int .i64 c, .int .i64 d, .int .i64 e] := by
  unfold flat
  rw [List.flatMap_append]
  simp [P5.cells]
theorem fanG_short (ps : List P5) (h : ps.length ≤ 4) : (fanG ps).1.size ≤ 200 := by
  by_cases hc : ps.length = 4 ∧ (∀ p ∈ ps, p.ok = true) ∧ someP ps = true
  · rw [fanG_yes hc.1 hc.2.1 hc.2.2]
    show (strOf (textOf ps)).size ≤ 200
    rw [strOf_size]
    have := textOf_short ps
    omega
  · rw [fanG_no hc]
    show (⟨#[]⟩ : ByteArray).size ≤ 200
    decide

def DrawS4 (w : World) (r : Ending) (w' : World) : Prop := ∃ s : ByteArray, r = .returned (.string s) ∧ s.size ≤ 400 ∧ Below w.heap.size w w'

set_option maxRecDepth 100000 in
set_option maxHeartbeats 4000000 in
theorem draw_fang (A : Option Addr) (n cap : Nat) (w : World) (hn : n ≤ cap) (hA : BytesAt w A n) :
    Calls Tryd.prog 31 #[.slice A n cap] w (DrawS4 w) := by
  have hO := open_rd A n cap w hn hA
  obtain ⟨i0, hi, hz0, hz1, hz2⟩ := info_parts Tryd.info24
  go_enter Tryd.func31, Tryd.ntmps31
  go_wp2_with (go_at_call 40; refine hO.mono ?_; rintro e w1 ⟨A1, m, c1, B, rfl, hr⟩; refine Hid.out ?_)
  refine Lib.hid ?_
  have o1 := World.ownsRow_made (e := 24) (base := w1.heap.size) w1 (size := 5) #[] 0 (Nat.le_refl _) (by decide) rfl
  have hws := hr.bel.size
  clear hO
  go_wp2_with fail
  go_loopg [4, 5] 4 (fun gh l i wr => ∃ (ps : List P5) (g2 c2 p : Nat), gh = 4 - ps.length ∧ ps.length ≤ 4 ∧ i = .int .i64 ps.length ∧ l = .slice (some ⟨g2, 0, none⟩) ps.length c2 ∧ wr.ownsRow w1.heap.size 24 5 (.slice (some ⟨g2, 0, none⟩) ps.length c2) ps.length (flat ps) ∧ IsRd w wr B A1 m c1 p ∧ p ≤ 40 * ps.length ∧ w1.heap.size ≤ wr.heap.size)
  case atStart => exact ⟨[], w1.heap.size, 0, 0, rfl, by decide, rfl, rfl, o1, hr.alloc _, by omega, by simp⟩
  case round =>
    clear o1 hr
    obtain ⟨ps, g2, c2, p, hg, hl, rfl, rfl, ho, hr, hp, hsz⟩ := hrel
    have HG := Lib.hid hg
    clear hg
    obtain ⟨k, hk⟩ : ∃ k, k = ps.length := ⟨_, rfl⟩
    by_cases hlt : ps.length < 4
    · have hP := ptr_gr w wr B A1 m c1 p hr (by omega)
      rw [← hk] at ho hl hlt hp HG ⊢
      have HKK := Lib.hid hk
      have hlt' : (k : Int) < 4 := by omega
      clear hk
      go_wp2_with (first
        | (go_at_call 41; refine hP.mono ?_; rintro r w2 ⟨a, b, c, d, f, p2, rfl, h2, hp2, g3⟩; have ho2 := own_past5 hr ho g3; have s2 := g3.size)
        | (at_builtin; refine wpList_append_own_at _ rfl _ _ 32 rfl w1.heap.size 24 i0 (.agg #[.int .i64 0, .int .i64 0, .int .i64 0, .int .i64 0, .int .i64 0]) 5 40 Tryd.underlying32 hi hz0 hz1 hz2 rfl (by decide) _ _ _ rfl (ho2.alloc _) ⟨_, 0, none⟩ 1 1 [.int .i64 a, .int .i64 b, .int .i64 c, .int .i64 d, .int .i64 f] rfl rfl (cell_five_at _ _ (by simp) _ _ _ _ _ _) (by simp [Value.oneCell']) (by unfold maxLen; omega) (by omega) (by simp; omega) ?_))
      intro v' w4 hown' hgrow _ hat
      have R : w4.ownsRow w1.heap.size 24 5 v' (ps ++ [(⟨a, b, c, d, f⟩ : P5)]).length (flat (ps ++ [(⟨a, b, c, d, f⟩ : P5)])) := by rw [flat_snoc, List.length_append, ← HKK.out]; exact hown'
      have D1 := IsRd.grown5 (h2.alloc _) (ho2.alloc _) hws hgrow
      have S1 := hgrow.size
      simp only [World.size_alloc] at S1
      obtain ⟨g4, c4, rfl⟩ := own_form5 R (by simp)
      have HL := Lib.hid (show (ps ++ [(⟨a, b, c, d, f⟩ : P5)]).length = k + 1 by rw [List.length_append, ← HKK.out]; rfl)
      clear hown' hgrow hat ho ho2 h2 hr
      go_wp2
      go_roundg (4 - (k + 1))
      case measure => have := HG.out; omega
      case rel => exact ⟨ps ++ [(⟨a, b, c, d, f⟩ : P5)], g4, c4, p2, by rw [HL.out], by rw [HL.out]; omega, by rw [HL.out]; go_num, by rw [HL.out], R, D1, by rw [HL.out]; omega, by omega⟩
    · have hS := spec_fput ps g2 c2 wr (PtrsAt.of_own ho)
      have hsh := fanG_short ps hl
      have hlt' : ¬ ((ps.length : Int) < 4) := by omega
      obtain ⟨⟨s, o⟩, hso⟩ : ∃ q, q = fanG ps := ⟨_, rfl⟩
      rw [← hso] at hS hsh
      have hS2 : Calls Tryd.prog 28 #[.slice (some ⟨g2, 0, none⟩) ps.length c2] wr fun r w' => r = .returned (.tuple #[.string s, .bool o]) ∧ Below wr.heap.size wr w' := hS
      have hsh2 : s.size ≤ 200 := hsh
      clear hso hS hsh ho HG
      go_wp2_with (go_at_call 28; refine hS2.mono ?_; rintro r w2 ⟨rfl, b2⟩; refine Hid.out ?_)
      refine Lib.hid ?_
      have h2 := hr.below b2
      have hK := pick_rd _ w2 B A1 m c1 p 3 h2 (by omega) (by omega) (by omega)
      clear hS2 hr
      go_wp2_with (go_at_call 49; refine hK.mono ?_; rintro e w4 ⟨x, x0, x1, rfl, r4, _⟩; refine Hid.out ?_)
      refine Lib.hid ?_
      clear hK h2
      by_cases hx : x = 0
      · subst hx
        have hT := spoil_more _ w4 B A1 m c1 (p + 1) s r4 (by omega) (by omega)
        go_wp2_with (go_at_call 50; refine hT.mono ?_; rintro e w5 ⟨t, rfl, ht, b5⟩)
        go_ret
        exact ⟨t, rfl, ht, b5⟩
      · have hx' : (x == 0) = false := by simpa using hx
        go_wp2_with fail
        go_ret
        exact ⟨s, rfl, by omega, r4.bel⟩
end Go.Proofs.YtlfggmllpbghaaaDoor
