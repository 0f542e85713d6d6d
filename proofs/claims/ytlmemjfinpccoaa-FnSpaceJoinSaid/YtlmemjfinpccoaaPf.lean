/-
  A law's own comparisons and sums.
-/
import Derived.Test.YtlmemjfinpccoaaMem
namespace Go.Proofs.Ytlmemjfinpccoaa
open Go.RowKit

set_option maxHeartbeats 1000000 in
theorem pf_ints (A B : Option Addr) (ca cb : Nat) (xs : List Int) (w : World) (hn : xs.length ≤ 1048576) (hA : Lies w A (intCells xs)) (hB : Lies w B (intCells xs)) :
    Calls Try.prog 49 #[.slice A xs.length ca, .slice B xs.length cb] w fun e w' => e = .returned (.bool true) ∧ Below w.heap.size w w' := by
  have hq0 : ((xs.length : Int) != (xs.length : Int)) = false := by simp
  go_enter Try.func49, Try.ntmps49
  go_wp2
  go_loopw [5] (fun i wr => ∃ k : Nat, k ≤ xs.length ∧ i = .int .i64 k ∧ Below w.heap.size w wr) (fun i _ => xs.length - (intOf i).toNat)
  case atStart => exact ⟨0, Nat.zero_le _, rfl, Below.refl _ _⟩
  case round =>
    obtain ⟨k, hk, rfl, hb⟩ := hrel
    by_cases hlt : k < xs.length
    · obtain ⟨b, off, rfl, hlb, hck⟩ := (hA.below hb).int k hlt
      obtain ⟨b2, off2, rfl, hlb2, hck2⟩ := (hB.below hb).int k hlt
      obtain ⟨x, hx⟩ : ∃ x, x = xs[k] := ⟨_, rfl⟩
      rw [← hx] at hck hck2
      have hq : (x != x) = false := by simp
      have hlt' : (k : Int) < (xs.length : Int) := by omega
      clear hx
      go_wp2_with fail
      go_quiet (fail)
      go_wp2
      go_roundw
      case rel => exact ⟨k + 1, by omega, by go_num, below_drewN hb _⟩
      case measure => simp [intOf]; omega
    · have hke : k = xs.length := by omega
      subst hke
      go_wp2
      go_ret
      exact ⟨rfl, hb⟩

set_option maxHeartbeats 1000000 in
theorem pf_space (A B A2 B2 : Option Addr) (c e c2 e2 : Nat) (s : Sp) (w : World) (hn : s.refs.length ≤ 1048576) (hm : s.last.length ≤ 1048576) (h1 : SpAt w A B s) (h2 : SpAt w A2 B2 s) :
    Calls Try.prog 44 #[.agg #[.slice A s.refs.length c, .slice B s.last.length e], .agg #[.slice A2 s.refs.length c2, .slice B2 s.last.length e2]] w fun r w' => r = .returned (.bool true) ∧ Below w.heap.size w w' := by
  have hS := fun W hW => pf_ints A A2 c c2 s.refs W hn (h1.1.below (w' := W) hW) (h2.1.below hW)
  have hT := fun W hW => pf_ints B B2 e e2 s.last W hm (h1.2.below (w' := W) hW) (h2.2.below hW)
  obtain ⟨n, hn'⟩ : ∃ n, n = s.refs.length := ⟨_, rfl⟩
  obtain ⟨m, hm'⟩ : ∃ m, m = s.last.length := ⟨_, rfl⟩
  rw [← hn'] at hS ⊢
  rw [← hm'] at hT ⊢
  clear hn hm hn' hm' h1 h2
  go_enter Try.func44, Try.ntmps44
  go_wp2_with (first
    | (go_at_call 49; ((with_reducible refine (hS _ (bel_new (bel_new (Below.refl _ _) _) _)).mono ?_); rintro r w2 ⟨rfl, hb2⟩; have B2 := bel_then (bel_new (bel_new (Below.refl _ _) _) _) hb2; obtain ⟨hc, hf⟩ := bcell hb2))
    | (go_at_call 49; refine (hT _ B2).mono ?_; rintro r w3 ⟨rfl, hb3⟩; have B3 := bel_then B2 hb3))
  go_ret
  exact ⟨rfl, B3⟩

theorem pf_own {w : World} {b1 b2 : Nat} {A B A2 B2 : Option Addr} {c e c2 e2 : Nat} {s : Sp} (hn : s.refs.length ≤ 1048576) (hm : s.last.length ≤ 1048576) (h1 : SpOwn w b1 (.agg #[.slice A s.refs.length c, .slice B s.last.length e]) s) (h2 : SpOwn w b2 (.agg #[.slice A2 s.refs.length c2, .slice B2 s.last.length e2]) s) :
    Calls Try.prog 44 #[.agg #[.slice A s.refs.length c, .slice B s.last.length e], .agg #[.slice A2 s.refs.length c2, .slice B2 s.last.length e2]] w fun r w' => r = .returned (.bool true) ∧ Below w.heap.size w w' :=
  pf_space A B A2 B2 c e c2 e2 s w hn hm h1.lies h2.lies

def sumL (xs : List Int) : Int := xs.foldl (· + ·) 0
theorem sumL_snoc (xs : List Int) (x : Int) : sumL (xs ++ [x]) = sumL xs + x := by simp [sumL]
theorem sumL_take {xs : List Int} {k : Nat} (h : k < xs.length) : sumL (xs.take (k + 1)) = sumL (xs.take k) + xs[k] := by rw [List.take_succ_eq_append_getElem h, sumL_snoc]
/-- Small numbers. -/
def Small (xs : List Int) : Prop := ∀ x ∈ xs, 0 ≤ x ∧ x ≤ 1000
theorem sumL_small {xs : List Int} (h : Small xs) : ∀ k, k ≤ xs.length → 0 ≤ sumL (xs.take k) ∧ sumL (xs.take k) ≤ 1000 * (k : Int)
  | 0, _ => by simp [sumL]
  | k + 1, hk => by
    have ih := sumL_small h k (by omega)
    have hx := h xs[k] (by simp)
    rw [sumL_take (by omega)]
    omega

set_option maxHeartbeats 1000000 in
theorem pf_sum (A : Option Addr) (c : Nat) (xs : List Int) (w : World) (hn : xs.length ≤ 1048576) (hs : Small xs) (hA : Lies w A (intCells xs)) :
    Calls Try.prog 50 #[.slice A xs.length c] w fun r w' => r = .returned (.int .i64 (sumL xs)) ∧ w = w' := by
  go_enter Try.func50, Try.ntmps50
  go_wp2
  go_loop [3, 4] (fun n i => ∃ k : Nat, k ≤ xs.length ∧ i = .int .i64 k ∧ n = .int .i64 (sumL (xs.take k))) (fun _ i => xs.length - (intOf i).toNat)
  case atStart => exact ⟨0, Nat.zero_le _, rfl, rfl⟩
  case round =>
    obtain ⟨k, hk, rfl, rfl⟩ := hrel
    by_cases hlt : k < xs.length
    · obtain ⟨b, off, rfl, hlb, hck⟩ := hA.int k hlt
      have hb := sumL_small hs k hk
      have hx9 := hs xs[k] (by simp)
      have hst := sumL_take hlt
      obtain ⟨x, hx⟩ : ∃ x, x = xs[k] := ⟨_, rfl⟩
      rw [← hx] at hck hx9 hst
      obtain ⟨z, hz⟩ : ∃ z, z = sumL (xs.take k) := ⟨_, rfl⟩
      rw [← hz] at hb hst ⊢
      have hlt' : (k : Int) < (xs.length : Int) := by omega
      have HST := Lib.hid hst
      clear hx hz hst hs
      obtain ⟨hb1, hb2⟩ := hb
      obtain ⟨hx1, hx2⟩ := hx9
      go_wp2_with fail
      go_round
      case rel => exact ⟨k + 1, by omega, by go_num, by rw [HST.out]⟩
      case measure => simp [intOf]; omega
    · have hke : k = xs.length := by omega
      subst hke
      rw [List.take_length]
      go_wp2_with fail
      go_ret
      exact ⟨rfl, rfl⟩
end Go.Proofs.Ytlmemjfinpccoaa
