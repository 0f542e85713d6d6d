/-
  Rows of pointers, of no or more: their weight, whether two are equal, the marks of a law.
-/
import Derived.Test.YtmnamclndpfjnaaPtR
import Derived.Test.YtmnamclndpfjnaaBn
namespace Go.Proofs.Ytmnamclndpfjnaa
open Go.RowKit

theorem sz_ptrL (A : Option Addr) (cap n : Nat) (L : Int) (w : World) (hL0 : 0 ≤ L) (hL : L ≤ 1048576) (hn : n ≤ maxLen) :
    Calls Try.prog 47 #[.slice A n cap, .int .i64 L] w (SzPost n L w) := by
  unfold maxLen at hn
  by_cases h : L < (n : Int)
  · have h2 : L - (n : Int) < 0 := by omega
    go_enter Try.func47, Try.ntmps47
    go_wp2
    go_ret
    exact ⟨_, rfl, Below.refl _ _, by intro h; omega⟩
  · have h2 : ¬ L - (n : Int) < 0 := by omega
    go_enter Try.func47, Try.ntmps47
    go_wp2
    go_ret
    exact ⟨_, rfl, Below.refl _ _, by intro h; omega⟩

theorem flat_nil : flat [] = [] := rfl
theorem eq_ptrsO {b1 b2 : Nat} {A B : Option Addr} {ca cb : Nat} {ps : List P5} {w : World} (hn : ps.length ≤ 1048576) (h1 : w.ownsRow b1 45 5 (.slice A ps.length ca) ps.length (flat ps)) (h2 : w.ownsRow b2 45 5 (.slice B ps.length cb) ps.length (flat ps)) :
    Calls Try.prog 38 #[.slice A ps.length ca, .slice B ps.length cb] w fun e w' => e = .returned (.bool true) ∧ Below w.heap.size w w' := by
  by_cases h0 : 0 < ps.length
  · obtain ⟨g, rfl⟩ := own_addr h1 h0
    obtain ⟨h, rfl⟩ := own_addr h2 h0
    exact eq_ptrs g h ca cb ps w hn (PtrsAt.of_own h1) (PtrsAt.of_own h2)
  · have h0 : ps.length = 0 := by omega
    rw [h0]
    clear h0 h1 h2 hn
    go_enter Try.func38, Try.ntmps38
    go_wp2
    go_loop [5] (fun i => i = .int .i64 0) (fun _ => 0)
    case atStart => rfl
    case round =>
      subst hrel
      go_wp2
      go_ret
      exact ⟨rfl, Below.refl _ _⟩

/-- The numbers from a on. -/
def marksP (a : Int) (m : Nat) : List Value := (List.range m).map fun i : Nat => .int .i64 (a + (i : Int))
theorem marksP_len (a : Int) (m : Nat) : (marksP a m).length = m := by simp [marksP]
theorem marksP_five (a : Int) (j : Nat) : marksP a (5 * (j + 1)) = marksP a (5 * j) ++ [.int .i64 (a + 5 * (j : Int)), .int .i64 (a + 5 * (j : Int) + 1), .int .i64 (a + 5 * (j : Int) + 1 + 1), .int .i64 (a + 5 * (j : Int) + 1 + 1 + 1), .int .i64 (a + 5 * (j : Int) + 1 + 1 + 1 + 1)] := by
  unfold marksP
  rw [show 5 * (j + 1) = 5 * j + 1 + 1 + 1 + 1 + 1 by omega]
  simp only [List.range_succ, List.map_append, List.map_cons, List.map_nil, List.append_assoc, List.cons_append, List.nil_append]
  congr 1
  simp only [List.cons.injEq, Value.int.injEq, true_and, and_true]
  omega
theorem marksP_at (a : Int) (n j k : Nat) (hj : j < n) (hk : k < 5) : (marksP a (5 * n))[j * 5 + k]? = some (.int .i64 (a + 5 * (j : Int) + k)) := by
  unfold marksP
  rw [List.getElem?_map, List.getElem?_range (by omega)]
  simp only [Option.map_some, Option.some.injEq, Value.int.injEq, true_and]
  omega

set_option maxRecDepth 100000 in
set_option maxHeartbeats 4000000 in
theorem mark_ptrA (t : TypeId) (base g c n : Nat) (xs : List Value) (a : Int) (w : World) (ha : 1 ≤ a) (hn : a + 5 * n ≤ 9999999) (ho : w.ownsRow base t 5 (.slice (some ⟨g, 0, none⟩) n c) n xs) :
    Calls Try.prog 41 #[.slice (some ⟨g, 0, none⟩) n c, .int .i64 a] w fun e w' => e = .returned (.int .i64 (a + 5 * (n : Int))) ∧ w'.ownsRow base t 5 (.slice (some ⟨g, 0, none⟩) n c) n (marksP a (5 * n)) ∧ w.grownBy w' (some g) := by
  have hxl : xs.length = 5 * n := by have := ho.1; omega
  go_enter Try.func41, Try.ntmps41
  go_wp2
  go_loopw [1, 5] (fun kv i wr => ∃ j : Nat, j ≤ n ∧ i = .int .i64 j ∧ kv = .int .i64 (a + 5 * (j : Int)) ∧ wr.ownsRow base t 5 (.slice (some ⟨g, 0, none⟩) n c) n (marksP a (5 * j) ++ xs.drop (5 * j)) ∧ w.grownBy wr (some g)) (fun _ i _ => n - (intOf i).toNat)
  case atStart => exact ⟨0, Nat.zero_le _, rfl, by simp, by simpa [marksP] using ho, World.grownBy.refl w (some g)⟩
  case round =>
    obtain ⟨j, hj, rfl, rfl, hr, hgr⟩ := hrel
    clear ho
    by_cases hlt : j < n
    · have hlt' : (j : Int) < (n : Int) := by omega
      obtain ⟨x0, x1, x2, x3, x4, R, hR, hd⟩ : ∃ x0 x1 x2 x3 x4 R, xs.drop (5 * j) = x0 :: x1 :: x2 :: x3 :: x4 :: R ∧ R = xs.drop (5 * (j + 1)) := by
        have hl : (xs.drop (5 * j)).length = 5 * n - 5 * j := by rw [List.length_drop, hxl]
        match h : xs.drop (5 * j) with
        | x0 :: x1 :: x2 :: x3 :: x4 :: R =>
          refine ⟨x0, x1, x2, x3, x4, R, rfl, ?_⟩
          rw [show 5 * (j + 1) = 5 * j + 5 by omega, ← List.drop_drop, h]
          rfl
        | [] => rw [h] at hl; simp at hl; omega
        | [_] => rw [h] at hl; simp at hl; omega
        | [_, _] => rw [h] at hl; simp at hl; omega
        | [_, _, _] => rw [h] at hl; simp at hl; omega
        | [_, _, _, _] => rw [h] at hl; simp at hl; omega
      rw [hR] at hr
      have hml : (marksP a (5 * j)).length = j * 5 := by rw [marksP_len]; omega
      have cell : ∀ i v, i < 5 → (x0 :: x1 :: x2 :: x3 :: x4 :: R)[i]? = some v → wr.cell? ⟨g, j * 5 + i, none⟩ = some v := fun i v hi hv => by
        rw [hr.cellAt (j * 5 + i) (by omega), List.getElem?_append_right (by omega), hml, show j * 5 + i - j * 5 = i by omega, hv]
      have y0 : wr.cell? ⟨g, j * 5, none⟩ = some x0 := cell 0 _ (by decide) rfl
      have y1 : wr.cell? ⟨g, j * 5 + 1, none⟩ = some x1 := cell 1 _ (by decide) rfl
      have y2 : wr.cell? ⟨g, j * 5 + 2, none⟩ = some x2 := cell 2 _ (by decide) rfl
      have y3 : wr.cell? ⟨g, j * 5 + 3, none⟩ = some x3 := cell 3 _ (by decide) rfl
      have y4 : wr.cell? ⟨g, j * 5 + 4, none⟩ = some x4 := cell 4 _ (by decide) rfl
      have f0 := hr.frozenAt (j * 5)
      have f1 := hr.frozenAt (j * 5 + 1)
      have f2 := hr.frozenAt (j * 5 + 2)
      have f3 := hr.frozenAt (j * 5 + 3)
      have f4 := hr.frozenAt (j * 5 + 4)
      have H5 := Lib.hid (marksP_five a j)
      have HD := Lib.hid hd
      clear hR hd cell
      go_wp2_with fail
      have S0 := hr.stored (j * 5) (.int .i64 (a + 5 * (j : Int)))
      have S1 := S0.1.stored (j * 5 + 1) (.int .i64 (a + 5 * (j : Int) + 1))
      have S2 := S1.1.stored (j * 5 + 2) (.int .i64 (a + 5 * (j : Int) + 1 + 1))
      have S3 := S2.1.stored (j * 5 + 3) (.int .i64 (a + 5 * (j : Int) + 1 + 1 + 1))
      have S4 := S3.1.stored (j * 5 + 4) (.int .i64 (a + 5 * (j : Int) + 1 + 1 + 1 + 1))
      have HG := ((((hgr.trans S0.2).trans S1.2).trans S2.2).trans S3.2).trans S4.2
      have R5 := S4.1
      rw [set_five _ R (j * 5) hml] at R5
      go_roundw
      case rel => exact ⟨j + 1, by omega, by go_num, by go_num, by rw [H5.out, ← HD.out, List.append_assoc]; exact R5, HG⟩
      case measure => simp [intOf]; omega
    · obtain rfl : j = n := by omega
      rw [List.drop_of_length_le (by omega), List.append_nil] at hr
      go_wp2
      go_ret
      exact ⟨rfl, hr, hgr⟩

def MarkPo (base : Nat) (t : TypeId) (v : Value) (a : Int) (n : Nat) (w : World) (e : Ending) (w' : World) : Prop :=
  e = .returned (.int .i64 (a + 5 * (n : Int))) ∧ w'.ownsRow base t 5 v n (marksP a (5 * n)) ∧ w.grownBy w' v.ownBlock
theorem mark_ptrsO (t : TypeId) (base : Nat) (A : Option Addr) (c n : Nat) (xs : List Value) (a : Int) (w : World) (ha : 1 ≤ a) (hn : a + 5 * n ≤ 9999999) (ho : w.ownsRow base t 5 (.slice A n c) n xs) :
    Calls Try.prog 41 #[.slice A n c, .int .i64 a] w (MarkPo base t (.slice A n c) a n w) := by
  by_cases h0 : 0 < n
  · obtain ⟨g, rfl⟩ := own_addr ho h0
    exact mark_ptrA t base g c n xs a w ha hn ho
  · obtain rfl : n = 0 := by omega
    have hx : xs = [] := List.length_eq_zero_iff.1 (by have := ho.1; omega)
    subst hx
    clear h0
    go_enter Try.func41, Try.ntmps41
    go_wp2
    go_loop [1, 5] (fun kv i => kv = .int .i64 a ∧ i = .int .i64 0) (fun _ _ => 0)
    case atStart => exact ⟨rfl, rfl⟩
    case round =>
      obtain ⟨rfl, rfl⟩ := hrel
      go_wp2
      go_ret
      exact ⟨by simp, ho, World.grownBy.refl w _⟩

set_option maxRecDepth 100000 in
set_option maxHeartbeats 4000000 in
theorem held_ptrsO (t : TypeId) (base : Nat) (A : Option Addr) (c n : Nat) (a : Int) (w : World) (ha : 1 ≤ a) (hn : a + 5 * n ≤ 9999999) (ho : w.ownsRow base t 5 (.slice A n c) n (marksP a (5 * n))) :
    Calls Try.prog 44 #[.slice A n c, .int .i64 a] w fun e w' => e = .returned (.int .i64 (a + 5 * (n : Int))) ∧ w = w' := by
  go_enter Try.func44, Try.ntmps44
  go_wp2
  go_loop [1, 5] (fun kv i => ∃ j : Nat, j ≤ n ∧ i = .int .i64 j ∧ kv = .int .i64 (a + 5 * (j : Int))) (fun _ i => n - (intOf i).toNat)
  case atStart => exact ⟨0, Nat.zero_le _, rfl, by simp⟩
  case round =>
    obtain ⟨j, hj, rfl, rfl⟩ := hrel
    by_cases hlt : j < n
    · have hlt' : (j : Int) < (n : Int) := by omega
      obtain ⟨g, rfl⟩ := own_addr ho (by omega)
      have cell : ∀ i, i < 5 → w.cell? ⟨g, j * 5 + i, none⟩ = some (.int .i64 (a + 5 * (j : Int) + i)) := fun i hi => by
        rw [ho.cellAt (j * 5 + i) (by omega), marksP_at a n j i hlt hi]
      have y0 : w.cell? ⟨g, j * 5, none⟩ = some (.int .i64 (a + 5 * (j : Int))) := by simpa using cell 0 (by decide)
      have y1 : w.cell? ⟨g, j * 5 + 1, none⟩ = some (.int .i64 (a + 5 * (j : Int) + 1)) := cell 1 (by decide)
      have y2 : w.cell? ⟨g, j * 5 + 2, none⟩ = some (.int .i64 (a + 5 * (j : Int) + 1 + 1)) := by rw [show a + 5 * (j : Int) + 1 + 1 = a + 5 * (j : Int) + 2 by omega]; exact cell 2 (by decide)
      have y3 : w.cell? ⟨g, j * 5 + 3, none⟩ = some (.int .i64 (a + 5 * (j : Int) + 1 + 1 + 1)) := by rw [show a + 5 * (j : Int) + 1 + 1 + 1 = a + 5 * (j : Int) + 3 by omega]; exact cell 3 (by decide)
      have y4 : w.cell? ⟨g, j * 5 + 4, none⟩ = some (.int .i64 (a + 5 * (j : Int) + 1 + 1 + 1 + 1)) := by rw [show a + 5 * (j : Int) + 1 + 1 + 1 + 1 = a + 5 * (j : Int) + 4 by omega]; exact cell 4 (by decide)
      have q : ∀ x : Int, (x != x) = false := fun x => by simp
      have q0 := q (a + 5 * (j : Int))
      have q1 := q (a + 5 * (j : Int) + 1)
      have q2 := q (a + 5 * (j : Int) + 1 + 1)
      have q3 := q (a + 5 * (j : Int) + 1 + 1 + 1)
      have q4 := q (a + 5 * (j : Int) + 1 + 1 + 1 + 1)
      clear cell q ho
      go_wp2_with fail
      go_round
      case rel => exact ⟨j + 1, by omega, by go_num, by go_num⟩
      case measure => simp [intOf]; omega
    · obtain rfl : j = n := by omega
      clear ho
      go_wp2
      go_ret
      exact ⟨rfl, rfl⟩
end Go.Proofs.Ytmnamclndpfjnaa
