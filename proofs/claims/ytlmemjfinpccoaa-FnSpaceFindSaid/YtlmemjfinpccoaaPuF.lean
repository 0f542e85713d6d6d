/-
  What a row that is found tells.
-/
import Derived.Test.YtlmemjfinpccoaaPuT
namespace Go.Proofs.Ytlmemjfinpccoaa

theorem seek_tells (U : Us) (but : List Int) (f : Int) : ∀ (k i : Nat), 0 ≤ seek U but f i k → ∃ m, i ≤ m ∧ m < i + k ∧ seek U but f i k = rowAt f m ∧ useAt U (rowAt f m) = (0, 0) ∧ rowAt f m ∉ but ∧ ∀ q, i ≤ q → q < m → ¬ (useAt U (rowAt f q) = (0, 0) ∧ rowAt f q ∉ but)
  | 0, i => by simp [seek]
  | k + 1, i => by
    intro h
    unfold seek at h ⊢
    by_cases hc : useAt U (rowAt f i) = (0, 0) ∧ rowAt f i ∉ but
    · rw [if_pos hc]
      exact ⟨i, by omega, by omega, rfl, hc.1, hc.2, fun q h1 h2 => by omega⟩
    · rw [if_neg hc] at h ⊢
      obtain ⟨m, m1, m2, m3, m4, m5, m6⟩ := seek_tells U but f k (i + 1) h
      refine ⟨m, by omega, by omega, m3, m4, m5, fun q h1 h2 => ?_⟩
      by_cases e : q = i
      · subst e; exact hc
      · exact m6 q (by omega) h2
structure FindF (d : Sp) (f : Int) (but : List Int) (r : Int) : Prop where
  hd : SpOk d
  at_ : ∃ k : Nat, r = (k : Int) ∧ k < 64 ∧ d.refs[k]? = some 0
  out : ∀ y ∈ but, y ≠ r
  mid : ∀ j : Nat, f ≤ j → 8 ≤ j → (j : Int) < r → ∃ x : Int, d.refs[j]? = some x ∧ (0 < x ∨ (j : Int) ∈ but)
  ok : (takeS d r 900).2 = true
theorem find_facts {d : Sp} {f : Int} {but : List Int} (h : 0 ≤ findS d f but) : FindF d f but (findS d f but) := by
  by_cases hd : SpOk d
  · have he : findS d f but = seek (usOf d) but (fromOf f) 0 56 := by unfold findS; rw [if_pos hd]
    rw [he] at h ⊢
    obtain ⟨m, _, m2, m3, m4, m5, m6⟩ := seek_tells _ _ _ _ _ h
    rw [m3]
    have hin := rowAt_in (fromOf f) m
    obtain ⟨k, hk⟩ : ∃ k : Nat, rowAt (fromOf f) m = (k : Int) := ⟨(rowAt (fromOf f) m).toNat, by omega⟩
    have hk64 : k < 64 := by omega
    have hr := (refs_at hd hk64).1
    rw [← hk, m4] at hr
    refine ⟨hd, ⟨k, hk, hk64, hr⟩, fun y hy e => m5 (e ▸ hy), fun j hf h8 hj => ?_, ?_⟩
    · have hj64 : j < 64 := by omega
      refine ⟨_, (refs_at hd hj64).1, ?_⟩
      have hff : fromOf f ≤ (j : Int) ∧ (fromOf f = f ∨ fromOf f = 8) ∧ 8 ≤ fromOf f ∧ fromOf f ≤ 63 := by
        have := fromOf_in f
        unfold fromOf at this ⊢
        split <;> omega
      obtain ⟨q, hq⟩ : ∃ q : Nat, (q : Int) = (j : Int) - fromOf f := ⟨((j : Int) - fromOf f).toNat, by omega⟩
      have hrow : rowAt (fromOf f) q = (j : Int) := by
        unfold rowAt
        omega
      have hqm : q < m := by
        unfold rowAt at hj
        omega
      have := m6 q (by omega) hqm
      rw [hrow] at this
      rcases use_ok hd (n := (j : Int)) with hu | hu
      · right
        exact Classical.byContradiction fun hb => this ⟨hu, hb⟩
      · left
        omega
    · unfold takeS
      rw [if_pos ⟨hd, hin.1, hin.2, by rw [m4]; decide, by omega⟩]
  · unfold findS at h
    rw [if_neg hd] at h
    omega
end Go.Proofs.Ytlmemjfinpccoaa
