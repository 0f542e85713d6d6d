/-
  What counting a list of pointers comes to, row by row: how many references, and the last of them.
-/
import Derived.Test.YtlmemjfinpccoaaPuO
import Derived.Test.YtlmemjfinpccoaaPuT
import Derived.Test.YtlmemjfinpccoaaPf
namespace Go.Proofs.Ytlmemjfinpccoaa

def cnt : List P5 → Int → Int
  | [], _ => 0
  | p :: ps, n => (if p.hole = false ∧ p.a = n then 1 else 0) + cnt ps n
def mx : List P5 → Int → Int
  | [], _ => 0
  | p :: ps, n => if p.hole = false ∧ p.a = n then max p.b (mx ps n) else mx ps n
def full : List P5 → Nat
  | [] => 0
  | p :: ps => (if p.hole = false then 1 else 0) + full ps
theorem cnt_app (a b : List P5) (n : Int) : cnt (a ++ b) n = cnt a n + cnt b n := by
  induction a with
  | nil => simp [cnt]
  | cons p a ih =>
    show (if p.hole = false ∧ p.a = n then 1 else 0) + cnt (a ++ b) n = (if p.hole = false ∧ p.a = n then 1 else 0) + cnt a n + cnt b n
    rw [ih]; omega
theorem full_app (a b : List P5) : full (a ++ b) = full a + full b := by
  induction a with
  | nil => simp [full]
  | cons p a ih =>
    show (if p.hole = false then 1 else 0) + full (a ++ b) = (if p.hole = false then 1 else 0) + full a + full b
    rw [ih]; omega
theorem mx_nonneg (a : List P5) (n : Int) : 0 ≤ mx a n := by
  induction a with
  | nil => simp [mx]
  | cons p a ih =>
    unfold mx
    split <;> omega
theorem mx_app (a b : List P5) (n : Int) : mx (a ++ b) n = max (mx a n) (mx b n) := by
  induction a with
  | nil =>
    have := mx_nonneg b n
    show mx b n = max 0 (mx b n)
    omega
  | cons p a ih =>
    show (if p.hole = false ∧ p.a = n then max p.b (mx (a ++ b) n) else mx (a ++ b) n) = max (if p.hole = false ∧ p.a = n then max p.b (mx a n) else mx a n) (mx b n)
    rw [ih]
    split <;> omega
theorem full_take {ps : List P5} {k : Nat} (h : k < ps.length) : full (ps.take (k + 1)) = full (ps.take k) + (if ps[k].hole = false then 1 else 0) := by
  rw [List.take_succ_eq_append_getElem h, full_app]
  simp [full]
theorem full_le (ps : List P5) : full ps ≤ ps.length := by
  induction ps with
  | nil => simp [full]
  | cons p ps ih =>
    unfold full
    rw [List.length_cons]
    split <;> omega
theorem cnt_nonneg (a : List P5) (n : Int) : 0 ≤ cnt a n := by
  induction a with
  | nil => simp [cnt]
  | cons p a ih =>
    unfold cnt
    split <;> omega
theorem cnt_le_full (a : List P5) (n : Int) : cnt a n ≤ full a := by
  induction a with
  | nil => simp [cnt, full]
  | cons p a ih =>
    unfold cnt full
    by_cases h : p.hole = false
    · by_cases h2 : p.a = n
      · rw [if_pos ⟨h, h2⟩, if_pos h]; omega
      · rw [if_neg (fun e => h2 e.2), if_pos h]; omega
    · rw [if_neg (fun e => h e.1), if_neg h]; omega

theorem step_at {U : Us} (hU : U.length = 64) {p : P5} (hp : p.ok = true) (n : Int) : useAt (stepU U p) n = if p.hole = false ∧ p.a = n then ((useAt U n).1 + 1, max (useAt U n).2 p.b) else useAt U n := by
  unfold stepU
  cases h : p.hole with
  | true => simp
  | false =>
    have r := ok_ranges hp h
    rw [if_neg (by simp)]
    unfold takeU
    by_cases e : p.a = n
    · subst e
      rw [if_pos ⟨rfl, rfl⟩, useAt_set_same (by omega) (by omega)]
    · rw [if_neg (fun h => e h.2), useAt_set_other (by omega) (fun h => e h.symm)]

theorem okTo {ps : List P5} : ∀ {k : Nat}, fineTo ps k = true → ∀ j (hj : j < ps.length), j < k → ps[j].ok = true
  | 0, _, j, hj, h => by omega
  | k + 1, hf, j, hj, h => by
    unfold fineTo at hf
    rw [Bool.and_eq_true] at hf
    by_cases e : j = k
    · subst e
      have := hf.2
      rw [List.getD_eq_getElem?_getD, List.getElem?_eq_getElem hj] at this
      unfold fineAt at this
      rw [Bool.and_eq_true] at this
      exact this.1
    · exact okTo hf.1 j hj (by omega)
theorem use_is {ps : List P5} : ∀ {k : Nat}, k ≤ ps.length → fineTo ps k = true → ∀ n, useAt (ofU (ps.take k)) n = (cnt (ps.take k) n, mx (ps.take k) n)
  | 0, _, _, n => by
    show useAt zeroU n = (0, 0)
    exact useAt_zero n
  | k + 1, hk, hf, n => by
    have hlt : k < ps.length := by omega
    have hf0 := fineTo_le (Nat.le_succ k) hf
    have ih := use_is (by omega) hf0 n
    rw [ofU_more hlt, step_at (Few.of (by omega) hf0).len (okTo hf k hlt (by omega)), ih, List.take_succ_eq_append_getElem hlt, cnt_app, mx_app]
    have h1 : cnt [ps[k]] n = if ps[k].hole = false ∧ ps[k].a = n then 1 else 0 := by simp [cnt]
    have h2 : mx [ps[k]] n = if ps[k].hole = false ∧ ps[k].a = n then max ps[k].b 0 else 0 := by simp [mx]
    have hm := mx_nonneg (ps.take k) n
    rw [h1, h2]
    split
    · rename_i h
      have hr := ok_ranges (okTo hf k hlt (by omega)) h.1
      exact Prod.ext rfl (by show max _ _ = max _ _; omega)
    · exact Prod.ext (by show _ = _ + 0; omega) (by show _ = max _ 0; omega)
theorem use_all {ps : List P5} (hf : fineB ps = true) (n : Int) : useAt (ofU ps) n = (cnt ps n, mx ps n) := by
  have := use_is (Nat.le_refl _) hf n
  rwa [List.take_length] at this

/-- The births of a row's references are unlike, so there are no more of them than the last one's number. -/
def births (ps : List P5) (n : Int) : List Int := (ps.filter fun p => decide (p.hole = false ∧ p.a = n)).map (·.b)
theorem nodup_bound : ∀ (m : Nat) (l : List Int), l.Nodup → (∀ x ∈ l, 1 ≤ x ∧ x ≤ m) → l.length ≤ m
  | 0, l, _, h => by
    cases l with
    | nil => exact Nat.le_refl _
    | cons x l => have := h x (by simp); omega
  | m + 1, l, hd, h => by
    have h1 := nodup_bound m (l.filter fun x => decide (x ≠ ((m + 1 : Nat) : Int))) (hd.filter _) (fun x hx => by
      have hx := List.mem_filter.1 hx
      have a := h x hx.1
      have b := of_decide_eq_true hx.2
      omega)
    have h2 : l.length ≤ (l.filter fun x => decide (x ≠ ((m + 1 : Nat) : Int))).length + 1 := by
      clear h h1
      induction l with
      | nil => simp
      | cons x l ih =>
        have hd2 := List.nodup_cons.1 hd
        by_cases e : x = ((m + 1 : Nat) : Int)
        · subst e
          have : l.filter (fun x => decide (x ≠ ((m + 1 : Nat) : Int))) = l := List.filter_eq_self.2 (fun y hy => decide_eq_true (fun e => hd2.1 (e ▸ hy)))
          rw [List.filter_cons_of_neg (by simp), this, List.length_cons]
          exact Nat.le_refl _
        · rw [List.filter_cons_of_pos (by simpa using e), List.length_cons, List.length_cons]
          have := ih hd2.2
          omega
    omega
theorem births_len (ps : List P5) (n : Int) : ((births ps n).length : Int) = cnt ps n := by
  unfold births
  rw [List.length_map]
  induction ps with
  | nil => rfl
  | cons p ps ih =>
    unfold cnt
    by_cases h : p.hole = false ∧ p.a = n
    · rw [List.filter_cons_of_pos (by simpa using h), List.length_cons, if_pos h]
      omega
    · rw [List.filter_cons_of_neg (by simpa using h), if_neg h]
      omega
theorem births_le (ps : List P5) (n : Int) : ∀ x ∈ births ps n, x ≤ mx ps n := by
  unfold births
  induction ps with
  | nil => simp
  | cons p ps ih =>
    intro x hx
    unfold mx
    by_cases h : p.hole = false ∧ p.a = n
    · rw [List.filter_cons_of_pos (by simpa using h), List.map_cons] at hx
      rw [if_pos h]
      rcases List.mem_cons.1 hx with rfl | hx
      · omega
      · have := ih x hx
        omega
    · rw [List.filter_cons_of_neg (by simpa using h)] at hx
      rw [if_neg h]
      exact ih x hx
theorem births_app (a b : List P5) (n : Int) : births (a ++ b) n = births a n ++ births b n := by simp [births]
theorem births_nodup {ps : List P5} (n : Int) : ∀ {k : Nat}, k ≤ ps.length → fineTo ps k = true → (births (ps.take k) n).Nodup
  | 0, _, _ => by simp [births]
  | k + 1, hk, hf => by
    have hlt : k < ps.length := by omega
    have ih := births_nodup n (by omega) (fineTo_le (Nat.le_succ k) hf)
    rw [List.take_succ_eq_append_getElem hlt, births_app]
    unfold fineTo at hf
    rw [Bool.and_eq_true, List.getD_eq_getElem?_getD, List.getElem?_eq_getElem hlt] at hf
    have hfa := hf.2
    simp only [Option.getD_some] at hfa
    unfold fineAt at hfa
    rw [Bool.and_eq_true] at hfa
    by_cases h : ps[k].hole = false ∧ ps[k].a = n
    · have hs : births [ps[k]] n = [ps[k].b] := by unfold births; rw [List.filter_cons_of_pos (by simpa using h)]; rfl
      rw [hs, List.nodup_append]
      refine ⟨ih, by simp, fun x hx y hy => ?_⟩
      rw [List.mem_singleton] at hy
      subst hy
      intro e
      have hc := hfa.2
      rw [h.1, Bool.false_or, Bool.not_eq_true'] at hc
      unfold clash at hc
      rw [List.any_eq_false] at hc
      unfold births at hx
      obtain ⟨q, hq, hqb⟩ := List.mem_map.1 hx
      have hq2 := List.mem_filter.1 hq
      have hq3 := of_decide_eq_true hq2.2
      exact hc q hq2.1 (by rw [hq3.2, h.2, hqb, e]; simp)
    · have hs : births [ps[k]] n = [] := by unfold births; rw [List.filter_cons_of_neg (by simpa using h)]; rfl
      rw [hs, List.append_nil]
      exact ih
theorem fine_ok {ps : List P5} (hf : fineB ps = true) : ∀ p ∈ ps, p.ok = true := fun p hp => by
  obtain ⟨j, hj, rfl⟩ := List.getElem_of_mem hp
  exact okTo hf j hj hj
theorem mx_le {ps : List P5} (h : ∀ p ∈ ps, p.ok = true) (n : Int) : mx ps n ≤ 900 := by
  induction ps with
  | nil => simp [mx]
  | cons p ps ih =>
    unfold mx
    have := ih (fun q hq => h q (List.mem_cons_of_mem _ hq))
    split
    · rename_i e
      have := ok_ranges (h p (by simp)) e.1
      omega
    · exact this
theorem births_pos {ps : List P5} (h : ∀ p ∈ ps, p.ok = true) (n : Int) : ∀ x ∈ births ps n, 1 ≤ x := fun x hx => by
  unfold births at hx
  obtain ⟨q, hq, rfl⟩ := List.mem_map.1 hx
  have hq2 := List.mem_filter.1 hq
  have hq3 := of_decide_eq_true hq2.2
  exact (ok_ranges (h q hq2.1) hq3.1).2.2.1
theorem cnt_le_mx {ps : List P5} (hf : fineB ps = true) (n : Int) : cnt ps n ≤ mx ps n := by
  have hd := births_nodup n (Nat.le_refl _) hf
  rw [List.take_length] at hd
  have hm := mx_nonneg ps n
  have := nodup_bound (mx ps n).toNat (births ps n) hd (fun x hx => ⟨births_pos (fine_ok hf) n x hx, by have := births_le ps n x hx; omega⟩)
  have := births_len ps n
  omega
theorem cnt_low {ps : List P5} (h : ∀ p ∈ ps, p.ok = true) {n : Int} (hn : n < 8) : cnt ps n = 0 ∧ mx ps n = 0 := by
  induction ps with
  | nil => simp [cnt, mx]
  | cons p ps ih =>
    have i := ih (fun q hq => h q (List.mem_cons_of_mem _ hq))
    have hne : ¬ (p.hole = false ∧ p.a = n) := fun e => by
      have := ok_ranges (h p (by simp)) e.1
      omega
    unfold cnt mx
    rw [if_neg hne, if_neg hne]
    omega
theorem mx_zero {ps : List P5} (h : ∀ p ∈ ps, p.ok = true) {n : Int} (hz : cnt ps n = 0) : mx ps n = 0 := by
  induction ps with
  | nil => simp [mx]
  | cons p ps ih =>
    have hc := cnt_nonneg ps n
    unfold cnt at hz
    by_cases e : p.hole = false ∧ p.a = n
    · rw [if_pos e] at hz
      omega
    · rw [if_neg e] at hz
      unfold mx
      rw [if_neg e]
      exact ih (fun q hq => h q (List.mem_cons_of_mem _ hq)) (by omega)
theorem of_valid {ps : List P5} (hf : fineB ps = true) : SpOk (spOf (ofU ps)) := by
  have hl := (Few.of (Nat.le_refl ps.length) hf).len
  rw [List.take_length] at hl
  have hs := spOf_len hl
  refine ⟨hs.1, hs.2, fun i hi => ?_⟩
  rw [usOf_spOf, ← useAt_nat, use_all hf]
  have hok := fine_ok hf
  have h1 := cnt_le_mx hf (i : Int)
  have h2 := mx_le hok (i : Int)
  have h3 := cnt_nonneg ps (i : Int)
  by_cases hz : cnt ps (i : Int) = 0
  · exact .inl ⟨hz, mx_zero hok hz⟩
  · refine .inr ⟨?_, ?_, h1, h2⟩
    · by_cases h8 : (i : Int) < 8
      · exact absurd (cnt_low hok h8).1 hz
      · omega
    · show 1 ≤ cnt ps (i : Int)
      omega
theorem sum_take {U : Us} {n t : Int} (h0 : 0 ≤ n) (h1 : n.toNat < U.length) : sumL (spOf (takeU U n t)).refs = sumL (spOf U).refs + 1 := by
  rw [spOf_takeU]
  have hx : (spOf U).refs[n.toNat]? = some (useAt U n).1 := by
    unfold useAt
    rw [if_pos h0, List.getD_eq_getElem?_getD, List.getElem?_eq_getElem h1]
    simp [spOf, List.getElem?_eq_getElem h1]
  rw [show (⟨(spOf U).refs.set n.toNat ((useAt U n).1 + 1), (spOf U).last.set n.toNat (max (useAt U n).2 t)⟩ : Sp).refs = (spOf U).refs.set n.toNat ((useAt U n).1 + 1) from rfl, sumL_set _ _ _ _ hx]
  omega
theorem sum_is {ps : List P5} : ∀ {k : Nat}, k ≤ ps.length → fineTo ps k = true → sumL (spOf (ofU (ps.take k))).refs = full (ps.take k)
  | 0, _, _ => by
    show sumL (spOf zeroU).refs = 0
    rw [newS_of]
    decide
  | k + 1, hk, hf => by
    have hlt : k < ps.length := by omega
    have hf0 := fineTo_le (Nat.le_succ k) hf
    have ih := sum_is (by omega) hf0
    have hl := (Few.of (by omega) hf0).len
    have hok := okTo hf k hlt (by omega)
    rw [ofU_more hlt, full_take hlt]
    unfold stepU
    cases h : ps[k].hole with
    | true => simpa using ih
    | false =>
      have r := ok_ranges hok h
      rw [if_neg (by simp), sum_take (by omega) (by omega), ih]
      simp
theorem sum_all {ps : List P5} (hf : fineB ps = true) : sumL (spOf (ofU ps)).refs = full ps := by
  have := sum_is (Nat.le_refl _) hf
  rwa [List.take_length] at this
/-- What is counted behind another list is counted alone, too. -/
theorem clash_sub {a b : List P5} (h : ∀ p ∈ a, p ∈ b) {x y : Int} (hb : clash b x y = false) : clash a x y = false := by
  unfold clash at hb ⊢
  rw [List.any_eq_false] at hb ⊢
  exact fun p hp => hb p (h p hp)
theorem fine_iff {ps : List P5} : ∀ {k : Nat}, k ≤ ps.length → (fineTo ps k = true ↔ ∀ j (hj : j < ps.length), j < k → fineAt (ps.take j) ps[j] = true)
  | 0, _ => ⟨fun _ j _ h => by omega, fun _ => rfl⟩
  | k + 1, hk => by
    have hlt : k < ps.length := by omega
    unfold fineTo
    rw [Bool.and_eq_true, fine_iff (by omega), List.getD_eq_getElem?_getD, List.getElem?_eq_getElem hlt]
    constructor
    · rintro ⟨h1, h2⟩ j hj h
      by_cases e : j = k
      · subst e; exact h2
      · exact h1 j hj (by omega)
    · intro h
      exact ⟨fun j hj hjk => h j hj (by omega), h k hlt (by omega)⟩
theorem fineAt_sub {a b : List P5} (h : ∀ p ∈ a, p ∈ b) {p : P5} (hb : fineAt b p = true) : fineAt a p = true := by
  unfold fineAt at hb ⊢
  rw [Bool.and_eq_true] at hb ⊢
  refine ⟨hb.1, ?_⟩
  cases e : p.hole with
  | true => rfl
  | false =>
    rw [e, Bool.false_or, Bool.not_eq_true'] at hb
    rw [clash_sub h hb.2]
    rfl
theorem fine_left {a b : List P5} (h : fineB (a ++ b) = true) : fineB a = true := by
  have h := (fine_iff (Nat.le_refl _)).1 h
  refine (fine_iff (Nat.le_refl _)).2 fun j hj _ => ?_
  have := h j (by simp; omega) (by simp; omega)
  rwa [List.getElem_append_left hj, List.take_append_of_le_length (by omega)] at this
theorem fine_right {a b : List P5} (h : fineB (a ++ b) = true) : fineB b = true := by
  have h := (fine_iff (Nat.le_refl _)).1 h
  refine (fine_iff (Nat.le_refl _)).2 fun j hj _ => ?_
  have := h (a.length + j) (by simp; omega) (by simp; omega)
  rw [List.getElem_append_right (by omega)] at this
  simp only [Nat.add_sub_cancel_left] at this
  refine fineAt_sub (fun p hp => ?_) this
  rw [List.take_append]
  exact List.mem_append_right _ (by rw [Nat.add_sub_cancel_left]; exact hp)
theorem ofS_yes {ps : List P5} (h : fineB ps = true) : ofS ps = (spOf (ofU ps), true) := by unfold ofS; rw [if_pos h]
theorem ofS_no {ps : List P5} (h : fineB ps = false) : ofS ps = (noS, false) := by unfold ofS; rw [h]; rfl
end Go.Proofs.Ytlmemjfinpccoaa
