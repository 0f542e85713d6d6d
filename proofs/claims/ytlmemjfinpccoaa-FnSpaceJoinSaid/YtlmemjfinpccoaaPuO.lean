/-
  What a list of pointers comes to: whether each reference is told once, and the space that counts them.
-/
import Derived.Test.YtlmemjfinpccoaaPtR
namespace Go.Proofs.Ytlmemjfinpccoaa

def stepU (U : Us) (p : P5) : Us := if p.hole then U else takeU U p.a p.b
def ofU (ps : List P5) : Us := ps.foldl stepU zeroU
theorem ofU_snoc (ps : List P5) (p : P5) : ofU (ps ++ [p]) = stepU (ofU ps) p := by simp [ofU]
/-- Some pointer of a list has this row and this birth. -/
def clash (qs : List P5) (x y : Int) : Bool := qs.any fun q => q.a == x && q.b == y
theorem clash_snoc (qs : List P5) (q : P5) (x y : Int) : clash (qs ++ [q]) x y = (clash qs x y || (q.a == x && q.b == y)) := by simp [clash]
/-- One more pointer may come behind a list. -/
def fineAt (qs : List P5) (p : P5) : Bool := p.ok && (p.hole || !(clash qs p.a p.b))
def fineTo : List P5 → Nat → Bool
  | _, 0 => true
  | ps, k + 1 => fineTo ps k && fineAt (ps.take k) (ps.getD k P5.zero)
def fineB (ps : List P5) : Bool := fineTo ps ps.length
def ofS (ps : List P5) : Sp × Bool := if fineB ps = true then (spOf (ofU ps), true) else (noS, false)
theorem fineTo_le {ps : List P5} : ∀ {n k : Nat}, k ≤ n → fineTo ps n = true → fineTo ps k = true
  | 0, k, h, hn => by rw [show k = 0 by omega]; rfl
  | n + 1, k, h, hn => by
    by_cases e : k = n + 1
    · rw [e]; exact hn
    · unfold fineTo at hn
      rw [Bool.and_eq_true] at hn
      exact fineTo_le (by omega) hn.1
theorem fine_yes {ps : List P5} {k : Nat} (h : fineTo ps k = true) (hk : k = ps.length) : ofS ps = (spOf (ofU ps), true) := by
  unfold ofS fineB
  rw [← hk, if_pos h]
theorem fine_not {ps : List P5} {k : Nat} (hk : k < ps.length) (h : fineAt (ps.take k) ps[k] = false) : ofS ps = (noS, false) := by
  unfold ofS fineB
  rw [if_neg]
  intro hf
  have := fineTo_le (k := k + 1) (by omega) hf
  unfold fineTo at this
  rw [List.getD_eq_getElem?_getD, List.getElem?_eq_getElem hk] at this
  simp [h] at this
theorem fine_more {ps : List P5} {k : Nat} (hk : k < ps.length) (h : fineTo ps k = true) (h2 : fineAt (ps.take k) ps[k] = true) : fineTo ps (k + 1) = true := by
  unfold fineTo
  rw [List.getD_eq_getElem?_getD, List.getElem?_eq_getElem hk]
  simp [h, h2]
theorem ofU_more {ps : List P5} {k : Nat} (hk : k < ps.length) : ofU (ps.take (k + 1)) = stepU (ofU (ps.take k)) ps[k] := by
  rw [List.take_succ_eq_append_getElem hk, ofU_snoc]
theorem clash_more {ps : List P5} {k : Nat} (hk : k < ps.length) (x y : Int) : clash (ps.take (k + 1)) x y = (clash (ps.take k) x y || (ps[k].a == x && ps[k].b == y)) := by
  rw [List.take_succ_eq_append_getElem hk, clash_snoc]

/-- A pointer that is valid and no hole. -/
theorem ok_ranges {p : P5} (h : p.ok = true) (h2 : p.hole = false) : 8 ≤ p.a ∧ p.a ≤ 63 ∧ 1 ≤ p.b ∧ p.b ≤ 900 := by
  unfold P5.ok isOk at h
  unfold P5.hole at h2
  rw [h2] at h
  simp [inB] at h
  omega
theorem hole_zero {p : P5} (h : p.hole = true) : p = P5.zero := by
  unfold P5.hole isHole same at h
  simp at h
  obtain ⟨a, b, c, d, e⟩ := p
  obtain ⟨⟨⟨⟨h1, h2⟩, h3⟩, h4⟩, h5⟩ := h
  simp only at h1 h2 h3 h4 h5
  rw [h1, h2, h3, h4, h5]
  rfl

/-- What is counted stays small. -/
structure Few (U : Us) (k : Nat) : Prop where
  len : U.length = 64
  lo : ∀ n, 0 ≤ (useAt U n).1
  hi : ∀ n, (useAt U n).1 ≤ k
  lo2 : ∀ n, 0 ≤ (useAt U n).2
  hi2 : ∀ n, (useAt U n).2 ≤ 900
theorem Few.zero : Few zeroU 0 := ⟨zeroU_len, fun n => by rw [useAt_zero]; decide, fun n => by rw [useAt_zero]; decide, fun n => by rw [useAt_zero]; decide, fun n => by rw [useAt_zero]; decide⟩
theorem Few.take {U : Us} {k : Nat} (h : Few U k) {n t : Int} (h0 : 0 ≤ n) (h1 : n < 64) (h2 : 0 ≤ t) (h3 : t ≤ 900) : Few (takeU U n t) (k + 1) := by
  have hl := h.len
  refine ⟨by simp [takeU, hl], fun m => ?_, fun m => ?_, fun m => ?_, fun m => ?_⟩ <;>
  · have a := h.lo m
    have b := h.hi m
    have c := h.lo2 m
    have d := h.hi2 m
    unfold takeU
    by_cases hm : m = n
    · subst hm
      rw [useAt_set_same h0 (by omega)]
      simp only
      omega
    · rw [useAt_set_other h0 hm]
      omega
theorem Few.step {U : Us} {k : Nat} (h : Few U k) {p : P5} (hp : p.ok = true) : Few (stepU U p) (k + 1) := by
  unfold stepU
  cases hh : p.hole with
  | true => exact ⟨h.len, h.lo, fun n => by have := h.hi n; simp only [if_true]; omega, h.lo2, h.hi2⟩
  | false =>
    have r := ok_ranges hp hh
    exact h.take (by omega) (by omega) (by omega) (by omega)
theorem Few.of {ps : List P5} : ∀ {k : Nat}, k ≤ ps.length → fineTo ps k = true → Few (ofU (ps.take k)) k
  | 0, _, _ => Few.zero
  | k + 1, hk, h => by
    rw [ofU_more (by omega)]
    unfold fineTo at h
    rw [Bool.and_eq_true, List.getD_eq_getElem?_getD, List.getElem?_eq_getElem (by omega : k < ps.length)] at h
    have h2 := h.2
    simp only [Option.getD_some] at h2
    unfold fineAt at h2
    rw [Bool.and_eq_true] at h2
    exact (Few.of (by omega) h.1).step h2.1
/-- A row of the counts. -/
theorem spOf_at {U : Us} (h : U.length = 64) {k : Nat} (hk : k < 64) : ∃ (h1 : k < (spOf U).refs.length) (h2 : k < (spOf U).last.length), useAt U (k : Int) = ((spOf U).refs[k], (spOf U).last[k]) := by
  have h1 : k < (spOf U).refs.length := by simp [spOf, h]; omega
  have h2 : k < (spOf U).last.length := by simp [spOf, h]; omega
  refine ⟨h1, h2, ?_⟩
  rw [useAt_nat, List.getD_eq_getElem?_getD, List.getElem?_eq_getElem (by omega : k < U.length)]
  simp [spOf]
theorem spOf_takeU (U : Us) (n t : Int) : spOf (takeU U n t) = ⟨(spOf U).refs.set n.toNat ((useAt U n).1 + 1), (spOf U).last.set n.toNat (max (useAt U n).2 t)⟩ := by
  unfold takeU
  rw [spOf_set]
theorem spOf_len {U : Us} (h : U.length = 64) : (spOf U).refs.length = 64 ∧ (spOf U).last.length = 64 := by simp [spOf, h]
end Go.Proofs.Ytlmemjfinpccoaa
