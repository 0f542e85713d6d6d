/-
  DrawFanPut draws some list of pointers.
-/
import Derived.Test.YtlfggmllpbghaaaDoorDrawFanG
namespace Go.Proofs.YtlfggmllpbghaaaDoor
open Go.RowKit
set_option linter.unusedVariables false

def PtrsPost (w0 : World) (e : Ending) (w' : World) : Prop :=
  ∃ (ps : List P5) (g c : Nat), e = .returned (.slice (some ⟨g, 0, none⟩) ps.length c) ∧ ps.length ≤ 8 ∧ PtrsAt w' g ps ∧ Below w0.heap.size w0 w'

set_option maxRecDepth 100000 in
set_option maxHeartbeats 4000000 in
theorem ptrs_any (w0 w : World) (B : Nat) (A : Option Addr) (m cap p : Nat) (h : IsRd w0 w B A m cap p) (hp : p ≤ 1000) :
    Calls Tryd.prog 53 #[.pointer (some ⟨B, 0, none⟩), .int .i64 6] w (PtrsPost w0) := by
  obtain ⟨i0, hi, hz0, hz1, hz2⟩ := info_parts Tryd.info24
  have hK := fun (o : Obj) => pick_rd w0 (w.alloc o) B A m cap p 7 (h.alloc o) (by omega) (by omega) (by omega)
  have o1 := World.ownsRow_made (e := 24) (base := w.heap.size) w (size := 5) #[] 0 (Nat.le_refl _) (by decide) rfl
  have hws := h.bel.size
  go_enter Tryd.func53, Tryd.ntmps53
  go_wp2_with (go_at_call 49; refine (hK _).mono ?_; rintro e w1 ⟨x, x0, x1, rfl, h1, g1⟩; refine Hid.out ?_)
  refine Lib.hid ?_
  have o2 := own_past5 (h.alloc _) o1 g1
  have s1 := g1.size
  simp only [World.size_alloc] at s1
  obtain ⟨N, rfl⟩ : ∃ N : Nat, x = (N : Int) := ⟨x.toNat, by omega⟩
  have hN : N ≤ 6 := by omega
  clear hK h o1 g1 x0 x1
  go_wp2_with fail
  go_loopg [5, 6] N (fun gh l i wr => ∃ (ps : List P5) (g2 c2 p kk : Nat), gh = kk ∧ kk + ps.length = N ∧ i = .int .i64 kk ∧ l = .slice (some ⟨g2, 0, none⟩) ps.length c2 ∧ wr.ownsRow w.heap.size 24 5 (.slice (some ⟨g2, 0, none⟩) ps.length c2) ps.length (flat ps) ∧ IsRd w0 wr B A m cap p ∧ p ≤ 1001 + 40 * ps.length ∧ w.heap.size ≤ wr.heap.size)
  case atStart => exact ⟨[], w.heap.size, 0, p + 1, N, rfl, rfl, rfl, rfl, o2, h1, by omega, by omega⟩
  case round =>
    clear o2 h1
    obtain ⟨ps, g2, c2, p', kk, hg, hl, rfl, rfl, ho, hr, hp', hsz⟩ := hrel
    have HG := Lib.hid hg
    clear hg
    by_cases hlt : 0 < kk
    · obtain ⟨k, hk⟩ : ∃ k, k = ps.length := ⟨_, rfl⟩
      have hP := ptr_gr w0 wr B A m cap p' hr (by omega)
      rw [← hk] at ho hl hp' ⊢
      have HKK := Lib.hid hk
      have hlt' : (0 : Int) < (kk : Int) := by omega
      clear hk
      go_wp2_with (first
        | (go_at_call 41; refine hP.mono ?_; rintro r w2 ⟨a, b, c, d, f, p2, rfl, h2, hp2, g3⟩; have ho2 := own_past5 hr ho g3; have s2 := g3.size)
        | (at_builtin; refine wpList_append_own_at _ rfl _ _ 32 rfl w.heap.size 24 i0 (.agg #[.int .i64 0, .int .i64 0, .int .i64 0, .int .i64 0, .int .i64 0]) 5 40 Tryd.underlying32 hi hz0 hz1 hz2 rfl (by decide) _ _ _ rfl (ho2.alloc _) ⟨_, 0, none⟩ 1 1 [.int .i64 a, .int .i64 b, .int .i64 c, .int .i64 d, .int .i64 f] rfl rfl (cell_five_at _ _ (by simp) _ _ _ _ _ _) (by simp [Value.oneCell']) (by unfold maxLen; omega) (by omega) (by simp; omega) ?_))
      intro v' w4 hown' hgrow _ hat
      have R : w4.ownsRow w.heap.size 24 5 v' (ps ++ [(⟨a, b, c, d, f⟩ : P5)]).length (flat (ps ++ [(⟨a, b, c, d, f⟩ : P5)])) := by rw [flat_snoc, List.length_append, ← HKK.out]; exact hown'
      have D1 := IsRd.grown5 (h2.alloc _) (ho2.alloc _) hws hgrow
      have S1 := hgrow.size
      simp only [World.size_alloc] at S1
      obtain ⟨g4, c4, rfl⟩ := own_form5 R (by simp)
      have HL := Lib.hid (show (ps ++ [(⟨a, b, c, d, f⟩ : P5)]).length = k + 1 by rw [List.length_append, ← HKK.out]; rfl)
      clear hown' hgrow hat ho ho2 h2 hr
      go_wp2
      go_roundg (kk - 1)
      case measure => have := HG.out; omega
      case rel => exact ⟨ps ++ [(⟨a, b, c, d, f⟩ : P5)], g4, c4, p2, kk - 1, rfl, by rw [HL.out]; omega, by go_num, by rw [HL.out], R, D1, by rw [HL.out]; omega, by omega⟩
    · obtain rfl : kk = 0 := by omega
      have hY := PtrsAt.of_own ho
      have hps : ps.length ≤ 8 := by omega
      clear ho
      go_wp2_with fail
      go_ret
      exact ⟨ps, g2, c2, rfl, hps, hY, hr.bel⟩

set_option maxRecDepth 100000 in
set_option maxHeartbeats 4000000 in
theorem draw_fanp (A : Option Addr) (n cap : Nat) (w : World) (hn : n ≤ cap) (hA : BytesAt w A n) :
    Calls Tryd.prog 26 #[.slice A n cap] w (PtrsPost w) := by
  have hO := open_rd A n cap w hn hA
  obtain ⟨i0, hi, hz0, hz1, hz2⟩ := info_parts Tryd.info24
  go_enter Tryd.func26, Tryd.ntmps26
  go_wp2_with (go_at_call 40; refine hO.mono ?_; rintro e w0 ⟨A1, m, c1, B, rfl, hr0⟩; refine Hid.out ?_)
  refine Lib.hid ?_
  have hK := pick_rd _ w0 B A1 m c1 0 8 hr0 (by omega) (by omega) (by omega)
  clear hO hr0
  go_wp2_with (go_at_call 49; refine hK.mono ?_; rintro e w1 ⟨x, x0, x1, rfl, hr, _⟩; refine Hid.out ?_)
  refine Lib.hid ?_
  clear hK
  by_cases hx : x = 0
  · subst hx
    have hT := ptrs_any _ w1 B A1 m c1 (0 + 1) hr (by omega)
    go_wp2_with (go_at_call 53; refine hT.mono ?_; rintro e w5 ⟨ps, g, c, rfl, hl, hY, b5⟩)
    go_ret
    exact ⟨ps, g, c, rfl, hl, hY, b5⟩
  have hx' : (x == 0) = false := by simpa using hx
  have o1 := World.ownsRow_made (e := 24) (base := w1.heap.size) w1 (size := 5) #[] 0 (Nat.le_refl _) (by decide) rfl
  have hws := hr.bel.size
  go_wp2_with fail
  go_loopg [4, 5] 4 (fun gh l i wr => ∃ (ps : List P5) (g2 c2 p : Nat), gh = 4 - ps.length ∧ ps.length ≤ 4 ∧ i = .int .i64 ps.length ∧ l = .slice (some ⟨g2, 0, none⟩) ps.length c2 ∧ wr.ownsRow w1.heap.size 24 5 (.slice (some ⟨g2, 0, none⟩) ps.length c2) ps.length (flat ps) ∧ IsRd w wr B A1 m c1 p ∧ p ≤ 1 + 40 * ps.length ∧ w1.heap.size ≤ wr.heap.size)
  case atStart => exact ⟨[], w1.heap.size, 0, 0 + 1, rfl, by decide, rfl, rfl, o1, hr.alloc _, by omega, by simp⟩
  case round =>
    clear o1 hr
    obtain ⟨ps, g2, c2, p, hg, hl, rfl, rfl, ho, hr, hp, hsz⟩ := hrel
    have HG := Lib.hid hg
    clear hg
    obtain ⟨k, hk⟩ : ∃ k, k = ps.length := ⟨_, rfl⟩
    by_cases hlt : ps.length < 4
    · have hP := ptr_gr w wr B A1 m c1 p hr (by omega)
      rw [← hk] at ho hl hlt hp HG ⊢
      have HKK := Lib.hid hk
      have hlt' : (k : Int) < 4 := by omega
      clear hk
      go_wp2_with (first
        | (go_at_call 41; refine hP.mono ?_; rintro r w2 ⟨a, b, c, d, f, p2, rfl, h2, hp2, g3⟩; have ho2 := own_past5 hr ho g3; have s2 := g3.size)
        | (at_builtin; refine wpList_append_own_at _ rfl _ _ 32 rfl w1.heap.size 24 i0 (.agg #[.int .i64 0, .int .i64 0, .int .i64 0, .int .i64 0, .int .i64 0]) 5 40 Tryd.underlying32 hi hz0 hz1 hz2 rfl (by decide) _ _ _ rfl (ho2.alloc _) ⟨_, 0, none⟩ 1 1 [.int .i64 a, .int .i64 b, .int .i64 c, .int .i64 d, .int .i64 f] rfl rfl (cell_five_at _ _ (by simp) _ _ _ _ _ _) (by simp [Value.oneCell']) (by unfold maxLen; omega) (by omega) (by simp; omega) ?_))
      intro v' w4 hown' hgrow _ hat
      have R : w4.ownsRow w1.heap.size 24 5 v' (ps ++ [(⟨a, b, c, d, f⟩ : P5)]).length (flat (ps ++ [(⟨a, b, c, d, f⟩ : P5)])) := by rw [flat_snoc, List.length_append, ← HKK.out]; exact hown'
      have D1 := IsRd.grown5 (h2.alloc _) (ho2.alloc _) hws hgrow
      have S1 := hgrow.size
      simp only [World.size_alloc] at S1
      obtain ⟨g4, c4, rfl⟩ := own_form5 R (by simp)
      have HL := Lib.hid (show (ps ++ [(⟨a, b, c, d, f⟩ : P5)]).length = k + 1 by rw [List.length_append, ← HKK.out]; rfl)
      clear hown' hgrow hat ho ho2 h2 hr
      go_wp2
      go_roundg (4 - (k + 1))
      case measure => have := HG.out; omega
      case rel => exact ⟨ps ++ [(⟨a, b, c, d, f⟩ : P5)], g4, c4, p2, by rw [HL.out], by rw [HL.out]; omega, by rw [HL.out]; go_num, by rw [HL.out], R, D1, by rw [HL.out]; omega, by omega⟩
    · have hlt' : ¬ ((ps.length : Int) < 4) := by omega
      have hY := PtrsAt.of_own ho
      have hps : ps.length ≤ 8 := by omega
      clear ho hk hl hlt HG
      go_wp2_with fail
      go_ret
      exact ⟨ps, g2, c2, rfl, hps, hY, hr.bel⟩
end Go.Proofs.YtlfggmllpbghaaaDoor
