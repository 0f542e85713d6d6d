/-
  Whether two disks that a law holds against each other are equal, field by field.
-/
import Derived.Test.YtadgknkheachaaaCopyD
namespace Go.Proofs.Ytadgknkheachaaa
open Go.RowKit

set_option maxHeartbeats 1000000 in
theorem eq_strs (A B : Option Addr) (ca cb : Nat) (ss : List ByteArray) (w : World) (hn : ss.length ≤ 1048576) (hA : Lies w A (strCells ss)) (hB : Lies w B (strCells ss)) :
    Calls Try.prog 52 #[.slice A ss.length ca, .slice B ss.length cb] w fun e w' => e = .returned (.bool true) ∧ Below w.heap.size w w' := by
  have hq0 : ((ss.length : Int) != (ss.length : Int)) = false := by simp
  go_enter Try.func52, Try.ntmps52
  go_wp2
  go_loopw [5] (fun i wr => ∃ k : Nat, k ≤ ss.length ∧ i = .int .i64 k ∧ Below w.heap.size w wr) (fun i _ => ss.length - (intOf i).toNat)
  case atStart => exact ⟨0, Nat.zero_le _, rfl, Below.refl _ _⟩
  case round =>
    obtain ⟨k, hk, rfl, hb⟩ := hrel
    by_cases hlt : k < ss.length
    · obtain ⟨b, off, rfl, hlb, hck⟩ := (hA.below hb).str k hlt
      obtain ⟨b2, off2, rfl, hlb2, hck2⟩ := (hB.below hb).str k hlt
      obtain ⟨x, hx⟩ : ∃ x, x = ss[k] := ⟨_, rfl⟩
      rw [← hx] at hck hck2
      have hq : (!x.toList == x.toList) = false := by simp
      have hlt' : (k : Int) < (ss.length : Int) := by omega
      clear hx
      go_wp2_with fail
      go_quiet (fail)
      go_wp2
      go_roundw
      case rel => exact ⟨k + 1, by omega, by go_num, below_drewN hb _⟩
      case measure => simp [intOf]; omega
    · have hke : k = ss.length := by omega
      subst hke
      go_wp2
      go_ret
      exact ⟨rfl, hb⟩

set_option maxHeartbeats 1000000 in
theorem eq_wait (n : Int) (t : ByteArray) (w : World) :
    Calls Try.prog 80 #[.agg #[.int .i64 n, .string t], .agg #[.int .i64 n, .string t]] w fun e w' => e = .returned (.bool true) ∧ Below w.heap.size w w' := by
  have hq : (!t.toList == t.toList) = false := by simp
  have hn : (n != n) = false := by simp
  go_enter Try.func80, Try.ntmps80
  go_wp2_with fail
  go_ret
  exact ⟨rfl, bel_new (bel_new (Below.refl _ _) _) _⟩

/-- The cells of two waiting writes, kept. -/
def TwoW (w : World) (g x h y : Nat) (n : Int) (t : ByteArray) (W : World) : Prop :=
  W.cell? ⟨g, x, none⟩ = some (.int .i64 n) ∧ W.cell? ⟨g, x + 1, none⟩ = some (.string t) ∧ W.cell? ⟨h, y, none⟩ = some (.int .i64 n) ∧ W.cell? ⟨h, y + 1, none⟩ = some (.string t) ∧ g < W.heap.size ∧ h < W.heap.size ∧ Below w.heap.size w W
theorem TwoW.next {w W W' : World} {g x h y : Nat} {n : Int} {t : ByteArray} (k : TwoW w g x h y n t W) (hb : Below W.heap.size W W') : TwoW w g x h y n t W' := by
  obtain ⟨a0, a1, b0, b1, hg, hh, hw⟩ := k
  exact ⟨(hb.cell hg).trans a0, (hb.cell hg).trans a1, (hb.cell hh).trans b0, (hb.cell hh).trans b1, Nat.lt_of_lt_of_le hg hb.size, Nat.lt_of_lt_of_le hh hb.size, bel_then hw hb⟩
theorem TwoW.drew {w W : World} {g x h y : Nat} {n : Int} {t : ByteArray} (k : TwoW w g x h y n t W) : TwoW w g x h y n t W.drew := by
  obtain ⟨a0, a1, b0, b1, hg, hh, hw⟩ := k
  exact ⟨a0, a1, b0, b1, hg, hh, hw.drew⟩

set_option maxRecDepth 100000 in
set_option maxHeartbeats 2000000 in
theorem eq_waits (A B : Option Addr) (ca cb : Nat) (ws : List Wt) (w : World) (hn : ws.length ≤ 1048576) (hA : Lies w A (wtCells ws)) (hB : Lies w B (wtCells ws)) :
    Calls Try.prog 53 #[.slice A ws.length ca, .slice B ws.length cb] w fun e w' => e = .returned (.bool true) ∧ Below w.heap.size w w' := by
  have hq0 : ((ws.length : Int) != (ws.length : Int)) = false := by simp
  go_enter Try.func53, Try.ntmps53
  go_wp2
  go_loopw [5] (fun i wr => ∃ k : Nat, k ≤ ws.length ∧ i = .int .i64 k ∧ Below w.heap.size w wr) (fun i _ => ws.length - (intOf i).toNat)
  case atStart => exact ⟨0, Nat.zero_le _, rfl, Below.refl _ _⟩
  case round =>
    obtain ⟨k, hk, rfl, hb⟩ := hrel
    by_cases hlt : k < ws.length
    · obtain ⟨b, off, rfl, hlb, y0, y1⟩ := (hA.below hb).wt k hlt
      obtain ⟨b2, off2, rfl, hlb2, z0, z1⟩ := (hB.below hb).wt k hlt
      obtain ⟨x, hx⟩ : ∃ x, x = ws[k].text := ⟨_, rfl⟩
      obtain ⟨n, hn'⟩ : ∃ n, n = ws[k].num := ⟨_, rfl⟩
      rw [← hx] at y1 z1
      rw [← hn'] at y0 z0
      have hE := fun W => eq_wait n x W
      have hlt' : (k : Int) < (ws.length : Int) := by omega
      clear hx hn'
      have K0 : TwoW wr b (off + k * 2) b2 (off2 + k * 2) n x wr := ⟨y0, y1, z0, z1, hlb, hlb2, Below.refl _ _⟩
      have K1 := K0.drew
      go_wp2_with fail
      go_region_held3 (fun W => W.cell? ⟨b, off + k * 2, none⟩ = some (.int .i64 n) ∧ W.cell? ⟨b, off + k * 2 + 1, none⟩ = some (.string x) ∧ W.cell? ⟨b2, off2 + k * 2, none⟩ = some (.int .i64 n) ∧ W.cell? ⟨b2, off2 + k * 2 + 1, none⟩ = some (.string x) ∧ b < W.heap.size ∧ b2 < W.heap.size ∧ Below wr.heap.size wr W)
        ((show TwoW wr b (off + k * 2) b2 (off2 + k * 2) n x _; with_reducible (first | exact K0 | exact K1 | exact hk2)))
        (first | (go_at_call 80; refine (hE _).mono ?_; rintro r w2 ⟨rfl, hb2⟩; have hk2 := K1.next hb2))
      have W2 : Below wr.heap.size wr w2 := hk2.2.2.2.2.2.2
      go_wp2_with fail
      go_roundw
      case rel => exact ⟨k + 1, by omega, by go_num, bel_then hb W2⟩
      case measure => simp [intOf]; omega
    · have hke : k = ws.length := by omega
      subst hke
      go_wp2
      go_ret
      exact ⟨rfl, hb⟩

set_option maxHeartbeats 1000000 in
theorem eq_disk (A B A2 B2 : Option Addr) (c e c2 e2 : Nat) (d : Dk) (w : World) (hn : d.cells.length ≤ 1048576) (hm : d.waits.length ≤ 1048576) (h1 : DkAt w A B d) (h2 : DkAt w A2 B2 d) :
    Calls Try.prog 24 #[.agg #[.slice A d.cells.length c, .slice B d.waits.length e, .bool d.gone], .agg #[.slice A2 d.cells.length c2, .slice B2 d.waits.length e2, .bool d.gone]] w fun r w' => r = .returned (.bool true) ∧ Below w.heap.size w w' := by
  have hS := fun W hW => eq_strs A A2 c c2 d.cells W hn (h1.1.below (w' := W) hW) (h2.1.below hW)
  have hT := fun W hW => eq_waits B B2 e e2 d.waits W hm (h1.2.below (w' := W) hW) (h2.2.below hW)
  have hg : (d.gone != d.gone) = false := by simp
  go_enter Try.func24, Try.ntmps24
  go_wp2_with (first
    | (go_at_call 52; refine (hS _ (bel_new (bel_new (Below.refl _ _) _) _)).mono ?_; rintro r w2 ⟨rfl, hb2⟩; have B2' := bel_then (bel_new (bel_new (Below.refl _ _) _) _) hb2; obtain ⟨hc, hf⟩ := bcell hb2; have s2 : w.heap.size + 1 + 1 ≤ w2.heap.size := (by have := hb2.size; simpa using this); have q0 : w.heap.size < w2.heap.size := (by omega); have q1 : w.heap.size + 1 < w2.heap.size := (by omega))
    | (go_at_call 53; refine (hT _ B2').mono ?_; rintro r w3 ⟨rfl, hb3⟩; have B3 := bel_then B2' hb3; obtain ⟨hc3, hf3⟩ := bcell hb3))
  go_ret
  exact ⟨rfl, B3⟩

theorem eq_own {w : World} {b1 b2 : Nat} {v1 v2 : Value} {d : Dk} (hn : d.cells.length ≤ 1048576) (hm : d.waits.length ≤ 1048576) (h1 : DkOwn w b1 v1 d) (h2 : DkOwn w b2 v2 d) :
    Calls Try.prog 24 #[v1, v2] w fun r w' => r = .returned (.bool true) ∧ Below w.heap.size w w' := by
  obtain ⟨A, c, B, e, rfl, l1⟩ := h1.at_
  obtain ⟨A2, c2, B2, e2, rfl, l2⟩ := h2.at_
  exact eq_disk A B A2 B2 c e c2 e2 d w hn hm l1 l2
end Go.Proofs.Ytadgknkheachaaa
