/-
  What is given back at the end of a group.
-/
import Derived.Test.YtmnamclndpfjnaaSto
namespace Go.Proofs.Ytmnamclndpfjnaa

def nextU (U : Us) (L : List P5) : Us := L.foldl (fun U p => giveU U p.a) U
theorem nextU_nil (U : Us) : nextU U [] = U := rfl
theorem nextU_snoc (U : Us) (L : List P5) (p : P5) : nextU U (L ++ [p]) = giveU (nextU U L) p.a := by simp [nextU]
theorem giveU_len (U : Us) (n : Int) : (giveU U n).length = U.length := by simp [giveU]
theorem nextU_len (U : Us) (L : List P5) : (nextU U L).length = U.length := by
  induction L generalizing U with
  | nil => rfl
  | cons p L ih => exact (ih _).trans (giveU_len _ _)
/-- What is left of a row of which c references are given back. -/
def leftOf (u : Int × Int) (c : Nat) : Int × Int := if u.1 = (c : Int) then (0, 0) else (u.1 - c, u.2)
theorem leftOf_lt {u : Int × Int} {c : Nat} (h : ¬ u.1 = (c : Int)) : leftOf u c = (u.1 - c, u.2) := if_neg h
theorem useAt_getD {U : Us} {n : Int} (h : 0 ≤ n) : useAt U n = U.getD n.toNat (0, 0) := by simp [useAt, h]
theorem set_getD {α : Type} (L : List α) (n i : Nat) (v d : α) (hn : n < L.length) : (L.set n v).getD i d = if i = n then v else L.getD i d := by
  rw [List.getD_eq_getElem?_getD, List.getElem?_set, List.getD_eq_getElem?_getD]
  by_cases h : i = n
  · subst h; simp [hn]
  · rw [if_neg (fun e => h e.symm), if_neg h]

section
variable {s : St} (h : StOk s)
include h
theorem next_row (k : Nat) (hk : k ≤ s.gone.length) : ∀ i, i < 64 → (nextU (usOf s.sp) (s.gone.take k)).getD i (0, 0) = leftOf ((usOf s.sp).getD i (0, 0)) (cntAt (s.gone.take k) i) := by
  induction k with
  | zero =>
    intro i hi
    have hr := h.sp.2.2 i hi
    unfold rowOk at hr
    obtain ⟨u, hu⟩ : ∃ u, u = (usOf s.sp).getD i (0, 0) := ⟨_, rfl⟩
    simp only [List.take_zero, nextU_nil, cntAt_nil]
    rw [← hu] at hr ⊢
    obtain ⟨a, b⟩ := u
    unfold leftOf
    simp only at hr ⊢
    split
    · rename_i h0
      have : a = 0 := by simpa using h0
      rcases hr with ⟨h1, h2⟩ | hr
      · rw [h1, h2]
      · omega
    · simp
  | succ k ih =>
    intro i hi
    have ih := ih (by omega)
    have hlt : k < s.gone.length := by omega
    have hgd : s.gone.getD k P5.zero = s.gone[k] := by rw [List.getD_eq_getElem?_getD, List.getElem?_eq_getElem hlt, Option.getD_some]
    have ho := h.gone k hlt
    rw [hgd] at ho
    rw [List.take_succ_eq_append_getElem hlt, nextU_snoc, cntAt_snoc]
    obtain ⟨p, hp⟩ : ∃ p, p = s.gone[k] := ⟨_, rfl⟩
    rw [← hp] at ho ⊢
    obtain ⟨o1, o2, o3⟩ := ho
    have hr := P5.ok_row o1
    rw [List.nil_append] at o3
    obtain ⟨n, hn⟩ : ∃ n : Nat, p.a = (n : Int) := ⟨p.a.toNat, by omega⟩
    rw [hn] at o3 hr ⊢
    have hn64 : n < 64 := by omega
    have iN := ih n hn64
    have hu := usOf_at h.sp.1 h.sp.2.1 n hn64
    have hlen : (nextU (usOf s.sp) (s.gone.take k)).length = 64 := by rw [nextU_len, usOf_len h.sp.1 h.sp.2.1]
    unfold giveU
    rw [Int.toNat_natCast, set_getD _ _ _ _ _ (by rw [hlen]; exact hn64)]
    by_cases hin : i = n
    · subst hin
      rw [if_pos rfl, if_pos rfl, useAt_nat, iN, hu]
      rw [Int.toNat_natCast] at o3
      rw [leftOf_lt (by show ¬ s.sp.refs.getD i 0 = _; omega)]
      simp only
      by_cases h1 : s.sp.refs.getD i 0 - (cntAt (s.gone.take k) i : Int) = 1
      · rw [if_pos h1]
        unfold leftOf
        rw [if_pos (by show s.sp.refs.getD i 0 = _; omega)]
      · rw [if_neg h1, leftOf_lt (by show ¬ s.sp.refs.getD i 0 = _; omega)]
        simp only
        rw [show s.sp.refs.getD i 0 - (cntAt (s.gone.take k) i : Int) - 1 = s.sp.refs.getD i 0 - ((cntAt (s.gone.take k) i + 1 : Nat) : Int) by omega]
    · rw [if_neg hin, ih i hi, if_neg (fun e => hin (by omega)), Nat.add_zero]
theorem next_cnt (k : Nat) (hk : k ≤ s.gone.length) : ∀ i : Nat, i < 64 → ((cntAt (s.gone.take k) i : Nat) : Int) ≤ s.sp.refs.getD i 0 := by
  induction k with
  | zero =>
    intro i hi
    simpa [cntAt_nil] using (h.ref_bd i hi).1
  | succ k ih =>
    intro i hi
    have ih := ih (by omega) i hi
    have hlt : k < s.gone.length := by omega
    have hgd : s.gone.getD k P5.zero = s.gone[k] := by rw [List.getD_eq_getElem?_getD, List.getElem?_eq_getElem hlt, Option.getD_some]
    have ho := h.gone k hlt
    rw [hgd] at ho
    rw [List.take_succ_eq_append_getElem hlt, cntAt_snoc]
    obtain ⟨p, hp⟩ : ∃ p, p = s.gone[k] := ⟨_, rfl⟩
    rw [← hp] at ho ⊢
    obtain ⟨o1, o2, o3⟩ := ho
    rw [List.nil_append] at o3
    by_cases e : p.a = (i : Int)
    · rw [if_pos e]
      rw [e, Int.toNat_natCast] at o3
      omega
    · rw [if_neg e, Nat.add_zero]
      exact ih
/-- .. so a row that is given back next is used. -/
theorem next_step (k : Nat) (hk : k < s.gone.length) : (0 ≤ (s.gone[k]).a ∧ (s.gone[k]).a < 64) ∧ 1 ≤ (useAt (nextU (usOf s.sp) (s.gone.take k)) (s.gone[k]).a).1 ∧ (useAt (nextU (usOf s.sp) (s.gone.take k)) (s.gone[k]).a).1 ≤ (useAt (nextU (usOf s.sp) (s.gone.take k)) (s.gone[k]).a).2 ∧ (useAt (nextU (usOf s.sp) (s.gone.take k)) (s.gone[k]).a).2 ≤ 1048576 := by
  have hgd : s.gone.getD k P5.zero = s.gone[k] := by rw [List.getD_eq_getElem?_getD, List.getElem?_eq_getElem hk, Option.getD_some]
  have ho := h.gone k hk
  rw [hgd] at ho
  obtain ⟨p, hp⟩ : ∃ p, p = s.gone[k] := ⟨_, rfl⟩
  rw [← hp] at ho ⊢
  obtain ⟨o1, o2, o3⟩ := ho
  have hr := P5.ok_row o1
  rw [List.nil_append] at o3
  obtain ⟨n, hn⟩ : ∃ n : Nat, p.a = (n : Int) := ⟨p.a.toNat, by omega⟩
  rw [hn] at o3 hr ⊢
  have hn64 : n < 64 := by omega
  have hw := h.sp.2.2 n hn64
  rw [useAt_nat, next_row h k (by omega) n hn64]
  rw [usOf_at h.sp.1 h.sp.2.1 n hn64] at hw ⊢
  rw [Int.toNat_natCast] at o3
  unfold rowOk at hw
  unfold leftOf
  simp only at hw ⊢
  rw [if_neg (by omega)]
  simp only
  omega
theorem next_ok : SpOk (spOf (nextU (usOf s.sp) s.gone)) := by
  have hl : (nextU (usOf s.sp) s.gone).length = 64 := by rw [nextU_len, usOf_len h.sp.1 h.sp.2.1]
  refine ⟨by simp [spOf, hl], by simp [spOf, hl], fun i hi => ?_⟩
  rw [usOf_spOf]
  have hr := next_row h s.gone.length (Nat.le_refl _) i hi
  rw [List.take_length] at hr
  rw [hr]
  have hw := h.sp.2.2 i hi
  unfold rowOk at hw ⊢
  obtain ⟨u, hu⟩ : ∃ u, u = (usOf s.sp).getD i (0, 0) := ⟨_, rfl⟩
  rw [← hu] at hw ⊢
  have hc : 0 < cntAt s.gone i → ((cntAt s.gone i : Nat) : Int) ≤ u.1 := fun _ => by
    have := next_cnt h s.gone.length (Nat.le_refl _) i hi
    rw [List.take_length] at this
    rw [hu, usOf_at h.sp.1 h.sp.2.1 i hi]
    exact this
  unfold leftOf
  split
  · exact .inl ⟨rfl, rfl⟩
  · simp only
    rcases hw with hw | hw
    · left
      rcases Nat.eq_zero_or_pos (cntAt s.gone i) with h0 | h0
      · rw [h0]; simp [hw]
      · have := hc h0; omega
    · right
      rcases Nat.eq_zero_or_pos (cntAt s.gone i) with h0 | h0
      · rw [h0]; simp only [Int.natCast_zero, Int.sub_zero]; omega
      · have := hc h0; omega
end
end Go.Proofs.Ytmnamclndpfjnaa
