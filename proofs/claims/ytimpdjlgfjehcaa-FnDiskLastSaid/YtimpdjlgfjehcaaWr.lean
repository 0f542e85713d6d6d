/-
  A write that waits, as the model and as the program lay it.
-/
import Derived.Test.YtimpdjlgfjehcaaRd
namespace Go.Proofs.Ytimpdjlgfjehcaa
open Go.RowKit

theorem writeD_bad {d : Dk} {n : Int} {t : ByteArray} (h : ¬ DkOk d) : writeD d n t = (dk0, false) := if_neg h
theorem writeD_no {d : Dk} {n : Int} {t : ByteArray} (h : DkOk d) (h2 : ¬ (d.gone = false ∧ 0 ≤ n ∧ n ≤ 63 ∧ t.size ≤ 200 ∧ d.waits.length < 120)) : writeD d n t = (d, false) := by
  unfold writeD
  rw [if_pos h, if_neg h2]
theorem writeD_yes {d : Dk} {n : Int} {t : ByteArray} (h : DkOk d) (h2 : d.gone = false ∧ 0 ≤ n ∧ n ≤ 63 ∧ t.size ≤ 200 ∧ d.waits.length < 120) : writeD d n t = (⟨d.cells, d.waits ++ [⟨n, t⟩], d.gone⟩, true) := by
  unfold writeD
  rw [if_pos h, if_pos h2]
def Take (d : Dk) (n : Int) (t : ByteArray) : Prop := d.gone = false ∧ 0 ≤ n ∧ n ≤ 63 ∧ t.size ≤ 200
def takeB (d : Dk) (n : Int) (t : ByteArray) : Bool := decide (d.gone = false ∧ 0 ≤ n ∧ n ≤ 63 ∧ t.size ≤ 200)
theorem takeB_iff (d : Dk) (n : Int) (t : ByteArray) : takeB d n t = true ↔ Take d n t := by simp [takeB, Take]
theorem takeB_no {d : Dk} {n : Int} {t : ByteArray} (h : ¬ Take d n t) : takeB d n t = false := by
  cases hb : takeB d n t with
  | false => rfl
  | true => exact absurd ((takeB_iff d n t).1 hb) h

set_option maxRecDepth 100000 in
set_option maxHeartbeats 2000000 in
theorem takes (A B : Option Addr) (c e : Nat) (d : Dk) (n : Int) (t : ByteArray) (w : World) (ht : t.size ≤ maxLen) :
    Calls Try.prog 32 #[.agg #[.slice A d.cells.length c, .slice B d.waits.length e, .bool d.gone], .int .i64 n, .string t] w fun r w' => r = .returned (.bool (takeB d n t)) ∧ Below w.heap.size w w' := by
  have hC := fun w => i_cell n w
  have hF := fun w => i_fits t w ht
  by_cases hg : d.gone = false
  · by_cases hn : 0 ≤ n ∧ n ≤ 63
    · rw [cellB_yes hn] at hC
      have hr : takeB d n t = fitB t := by rw [Bool.eq_iff_iff, takeB_iff]; simp [Take, fitB, hg, hn]
      rw [hr, hg]
      obtain ⟨f, hf⟩ : ∃ f, f = fitB t := ⟨_, rfl⟩
      rw [← hf] at hF ⊢
      clear hf hr hg hn
      cases f
      all_goals
        go_enter Try.func32, Try.ntmps32
        go_wp2_with (first | (go_at_call 36; refine (hC _).mono ?_; rintro r w' ⟨rfl, rfl⟩) | (go_at_call 42; refine (hF _).mono ?_; rintro r w' ⟨rfl, rfl⟩))
        go_ret
        exact ⟨rfl, bel_new (Below.refl _ _) _⟩
    · rw [cellB_no hn] at hC
      have hr : takeB d n t = false := takeB_no (fun h => hn ⟨h.2.1, h.2.2.1⟩)
      rw [hr, hg]
      clear hr hg hn hF
      go_enter Try.func32, Try.ntmps32
      go_wp2_with (go_at_call 36; refine (hC _).mono ?_; rintro r w' ⟨rfl, rfl⟩)
      go_ret
      exact ⟨rfl, bel_new (Below.refl _ _) _⟩
  · have hg' : d.gone = true := by simpa using hg
    have hr : takeB d n t = false := takeB_no (fun h => hg h.1)
    rw [hr, hg']
    clear hr hg hg' hF hC
    go_enter Try.func32, Try.ntmps32
    go_wp2
    go_ret
    exact ⟨rfl, bel_new (Below.refl _ _) _⟩
end Go.Proofs.Ytimpdjlgfjehcaa
