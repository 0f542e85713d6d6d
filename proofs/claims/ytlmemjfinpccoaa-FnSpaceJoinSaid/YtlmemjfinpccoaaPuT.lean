/-
  What one reference more, or less, comes to.
-/
import Derived.Test.YtlmemjfinpccoaaUM
import Derived.Test.YtlmemjfinpccoaaPf
namespace Go.Proofs.Ytlmemjfinpccoaa

theorem sumL_from (xs : List Int) : ∀ a : Int, xs.foldl (· + ·) a = a + sumL xs := by
  induction xs with
  | nil => intro a; simp [sumL]
  | cons x xs ih =>
    intro a
    show xs.foldl (· + ·) (a + x) = a + xs.foldl (· + ·) (0 + x)
    rw [ih, ih]
    omega
theorem sumL_cons (x : Int) (xs : List Int) : sumL (x :: xs) = x + sumL xs := by
  show xs.foldl (· + ·) (0 + x) = _
  rw [sumL_from]
  omega
theorem sumL_set : ∀ (xs : List Int) (k : Nat) (x y : Int), xs[k]? = some x → sumL (xs.set k y) = sumL xs + (y - x)
  | [], _, _, _, h => by simp at h
  | a :: xs, 0, x, y, h => by
    simp at h
    subst h
    rw [List.set_cons_zero, sumL_cons, sumL_cons]
    omega
  | a :: xs, k + 1, x, y, h => by
    rw [List.getElem?_cons_succ] at h
    rw [List.set_cons_succ, sumL_cons, sumL_cons, sumL_set xs k x y h]
    omega
theorem small_ok {s : Sp} (h : SpOk s) : Small s.refs := fun x hx => by
  obtain ⟨i, hi, rfl⟩ := List.getElem_of_mem hx
  have h1 := h.1
  have := h.2.2 i (by omega)
  rw [usOf_at h.1 h.2.1 i (by omega), List.getD_eq_getElem?_getD, List.getElem?_eq_getElem hi] at this
  simp only [Option.getD_some] at this
  rcases this with ⟨a, _⟩ | ⟨_, a, b, c⟩
  · simp only at a; omega
  · simp only at a b c; omega
/-- A valid space with one row written anew. -/
theorem ok_set {s : Sp} (h : SpOk s) {k : Nat} (hk : k < 64) {u : Int × Int} (hu : rowOk k u) : SpOk (spOf ((usOf s).set k u)) := by
  have hl := usOf_len h.1 h.2.1
  refine ⟨by simp [spOf, hl], by simp [spOf, hl], fun i hi => ?_⟩
  rw [usOf_spOf, List.getD_eq_getElem?_getD]
  by_cases e : i = k
  · subst e
    rw [List.getElem?_set_self (by omega)]
    exact hu
  · rw [List.getElem?_set_ne (by omega), ← List.getD_eq_getElem?_getD]
    exact h.2.2 i hi
theorem refs_at {s : Sp} (h : SpOk s) {k : Nat} (hk : k < 64) : s.refs[k]? = some (useAt (usOf s) (k : Int)).1 ∧ s.last[k]? = some (useAt (usOf s) (k : Int)).2 := by
  have h1 := h.1
  have h2 := h.2.1
  rw [useAt_nat, usOf_at h1 h2 k hk, List.getD_eq_getElem?_getD, List.getD_eq_getElem?_getD, List.getElem?_eq_getElem (by omega : k < s.refs.length), List.getElem?_eq_getElem (by omega : k < s.last.length)]
  exact ⟨rfl, rfl⟩
theorem sp_set {s : Sp} (h : SpOk s) (k : Nat) (u : Int × Int) : spOf ((usOf s).set k u) = ⟨s.refs.set k u.1, s.last.set k u.2⟩ := by
  rw [spOf_set, spOf_usOf (by rw [h.1, h.2.1])]
/-- What a reference that is taken changes. -/
structure TakeF (d D : Sp) (n t : Int) : Prop where
  hd : SpOk d
  hD : SpOk D
  at_ : ∃ k : Nat, n = (k : Int) ∧ k < 64 ∧ ∃ x : Int, 0 ≤ x ∧ x ≤ 900 ∧ d.refs[k]? = some x ∧ D.refs[k]? = some (x + 1) ∧ D.last[k]? = some t
  back : (giveS D n).2 = true ∧ (giveS D n).1.refs = d.refs
  sum : sumL D.refs = sumL d.refs + 1
theorem take_facts {d : Sp} {n t : Int} (h : (takeS d n t).2 = true) : TakeF d (takeS d n t).1 n t := by
  unfold takeS at h ⊢
  split at h
  · rename_i hc
    rw [if_pos hc]
    simp only
    obtain ⟨hd, h8, h63, hlt, h900⟩ := hc
    obtain ⟨k, rfl⟩ : ∃ k : Nat, n = (k : Int) := ⟨n.toNat, by omega⟩
    have hk : k < 64 := by omega
    have hu := use_ok hd (n := (k : Int))
    obtain ⟨r1, r2⟩ := refs_at hd hk
    obtain ⟨x, y, hxy⟩ : ∃ x y, useAt (usOf d) (k : Int) = (x, y) := ⟨_, _, rfl⟩
    rw [hxy] at hu hlt r1 r2
    simp only at hu hlt r1 r2
    have hx : 0 ≤ x ∧ x ≤ y ∧ y ≤ 900 := by
      rcases hu with hu | ⟨_, _, a, b, c⟩
      · cases hu; omega
      · omega
    have hl := usOf_len hd.1 hd.2.1
    have he : takeU (usOf d) (k : Int) t = (usOf d).set k (x + 1, t) := by
      unfold takeU
      rw [hxy, Int.max_eq_right (by omega : y ≤ t)]
      rfl
    rw [he]
    have hrow : rowOk k (x + 1, t) := .inr ⟨by omega, by simp only; omega, by simp only; omega, h900⟩
    have hD := ok_set hd hk hrow
    have hs := sp_set hd k (x + 1, t)
    have h1 := hd.1
    have h2 := hd.2.1
    refine ⟨hd, hD, ⟨k, rfl, hk, x, by omega, by omega, r1, by rw [hs]; exact List.getElem?_set_self (by omega), by rw [hs]; exact List.getElem?_set_self (by omega)⟩, ?_, ?_⟩
    · have hw : useAt (usOf (spOf ((usOf d).set k (x + 1, t)))) (k : Int) = (x + 1, t) := by
        rw [usOf_spOf]
        exact useAt_set_same (n := (k : Int)) (by omega) (by show k < _; omega)
      unfold giveS
      rw [if_pos ⟨hD, by rw [hw]; simp only [ne_eq, Prod.mk.injEq]; omega⟩]
      refine ⟨rfl, ?_⟩
      simp only
      unfold giveU
      rw [hw, usOf_spOf]
      show (spOf (((usOf d).set k (x + 1, t)).set k _)).refs = _
      rw [List.set_set, sp_set hd]
      simp only
      have hz : (if x + 1 = 1 then ((0 : Int), (0 : Int)) else (x + 1 - 1, t)).1 = x := by
        split
        · simp only; omega
        · simp only; omega
      rw [hz]
      apply List.ext_getElem?
      intro i
      by_cases e : i = k
      · subst e
        rw [List.getElem?_set_self (by omega), r1]
      · rw [List.getElem?_set_ne (by omega)]
    · rw [hs]
      simp only
      rw [sumL_set _ _ _ _ r1]
      omega
  · simp at h
/-- What a reference that is given back changes. -/
structure GiveF (d D : Sp) (n : Int) : Prop where
  hd : SpOk d
  hD : SpOk D
  at_ : ∃ k : Nat, n = (k : Int) ∧ k < 64 ∧ ∃ x : Int, 0 ≤ x ∧ D.refs[k]? = some x ∧ roomS D = roomS d + (if x = 0 then 1 else 0)
  sum : sumL D.refs = sumL d.refs - 1
  room : 0 ≤ roomS d ∧ roomS d ≤ 56
theorem give_facts {d : Sp} {n : Int} (h : (giveS d n).2 = true) : GiveF d (giveS d n).1 n := by
  unfold giveS at h ⊢
  split at h
  · rename_i hc
    rw [if_pos hc]
    simp only
    obtain ⟨hd, hne⟩ := hc
    rcases use_ok hd (n := n) with hu | ⟨h8, h63, a, b, c⟩
    · exact absurd hu hne
    obtain ⟨k, rfl⟩ : ∃ k : Nat, n = (k : Int) := ⟨n.toNat, by omega⟩
    have hk : k < 64 := by omega
    obtain ⟨r1, r2⟩ := refs_at hd hk
    obtain ⟨x, y, hxy⟩ : ∃ x y, useAt (usOf d) (k : Int) = (x, y) := ⟨_, _, rfl⟩
    rw [hxy] at a b c r1 r2
    simp only at a b c r1 r2
    have hl := usOf_len hd.1 hd.2.1
    have he : giveU (usOf d) (k : Int) = (usOf d).set k (if x = 1 then (0, 0) else (x - 1, y)) := by
      unfold giveU
      rw [hxy]
      rfl
    rw [he]
    have hrow : rowOk k (if x = 1 then (0, 0) else (x - 1, y)) := by
      split
      · exact .inl ⟨rfl, rfl⟩
      · exact .inr ⟨by omega, by show (1 : Int) ≤ x - 1; omega, by show x - 1 ≤ y; omega, c⟩
    have hD := ok_set hd hk hrow
    have hs := sp_set hd k (if x = 1 then (0, 0) else (x - 1, y))
    have hf : (if x = 1 then ((0 : Int), (0 : Int)) else (x - 1, y)).1 = x - 1 := by
      split
      · simp only; omega
      · rfl
    have h1 := hd.1
    have hg : (usOf d).getD k (0, 0) = (x, y) := by rw [← useAt_nat, hxy]
    have q1 : ((x, y) : Int × Int) ≠ (0, 0) := by simp only [ne_eq, Prod.mk.injEq]; omega
    have hge : 0 ≤ roomS d := by
      have hle : cntU (usOf d) ≤ 56 := by
        have h8' : cntU ((usOf d).take 8) = 0 := by
          unfold cntU
          rw [List.length_eq_zero_iff, List.filter_eq_nil_iff]
          intro u hu
          obtain ⟨i, hi, rfl⟩ := List.getElem_of_mem hu
          have hi8 : i < 8 := by
            rw [List.length_take] at hi
            omega
          have := hd.2.2 i (by omega)
          rw [List.getD_eq_getElem?_getD, List.getElem?_eq_getElem (by omega : i < (usOf d).length)] at this
          rw [List.getElem_take]
          simp only [Option.getD_some] at this
          rcases this with ⟨a, b⟩ | ⟨a, _⟩
          · simp [Prod.ext_iff, a, b]
          · omega
        have hc : cntU (usOf d) = cntU ((usOf d).take 8) + cntU ((usOf d).drop 8) := by
          unfold cntU
          rw [← List.length_append, ← List.filter_append, List.take_append_drop]
        have := cnt_le ((usOf d).drop 8)
        rw [List.length_drop] at this
        omega
      unfold roomS
      rw [if_pos hd]
      omega
    refine ⟨hd, hD, ⟨k, rfl, hk, x - 1, by omega, by rw [hs]; simp only; rw [hf]; exact List.getElem?_set_self (by omega), ?_⟩, ?_, hge, by unfold roomS; rw [if_pos hd]; omega⟩
    · unfold roomS
      rw [if_pos hd, if_pos hD, usOf_spOf]
      by_cases e : x = 1
      · have hcs := cnt_set (usOf d) k (0, 0) (by omega)
        rw [hg, if_neg q1, if_pos rfl] at hcs
        rw [if_pos e, if_pos (by omega : x - 1 = 0)]
        omega
      · have hcs := cnt_set (usOf d) k (x - 1, y) (by omega)
        rw [hg, if_neg q1, if_neg (by simp only [Prod.mk.injEq]; omega)] at hcs
        rw [if_neg e, if_neg (by omega : ¬ x - 1 = 0)]
        omega
    · rw [hs, hf]
      simp only
      rw [sumL_set _ _ _ _ r1]
      omega
  · simp at h
/-- Two references of two rows: either order does. -/
theorem take_order {d : Sp} {n1 t1 n2 t2 : Int} (h : (takeS d n1 t1).2 = true) (hne : n1 ≠ n2) :
    (takeS (takeS d n1 t1).1 n2 t2).2 = (takeS d n2 t2).2 ∧ ((takeS d n2 t2).2 = true → (takeS (takeS d n2 t2).1 n1 t1) = ((takeS (takeS d n1 t1).1 n2 t2).1, true)) := by
  have f1 := take_facts h
  have hc1 : SpOk d ∧ 8 ≤ n1 ∧ n1 ≤ 63 ∧ (useAt (usOf d) n1).2 < t1 ∧ t1 ≤ 900 := by
    unfold takeS at h
    split at h
    · assumption
    · simp at h
  have e1 : takeS d n1 t1 = (spOf (takeU (usOf d) n1 t1), true) := by unfold takeS; rw [if_pos hc1]
  have hD1 : SpOk (spOf (takeU (usOf d) n1 t1)) := by
    have := f1.hD
    rw [e1] at this
    exact this
  have hu : ∀ a b t, a ≠ b → 0 ≤ a → useAt (takeU (usOf d) a t) b = useAt (usOf d) b := fun a b t hab ha => by
    unfold takeU
    exact useAt_set_other ha (fun e => hab e.symm)
  by_cases hc2 : SpOk d ∧ 8 ≤ n2 ∧ n2 ≤ 63 ∧ (useAt (usOf d) n2).2 < t2 ∧ t2 ≤ 900
  · have e2 : takeS d n2 t2 = (spOf (takeU (usOf d) n2 t2), true) := by unfold takeS; rw [if_pos hc2]
    have f2 := take_facts (d := d) (n := n2) (t := t2) (by rw [e2])
    have hD2 : SpOk (spOf (takeU (usOf d) n2 t2)) := by
      have := f2.hD
      rw [e2] at this
      exact this
    have e3 : takeS (spOf (takeU (usOf d) n1 t1)) n2 t2 = (spOf (takeU (takeU (usOf d) n1 t1) n2 t2), true) := by
      unfold takeS
      rw [usOf_spOf, hu n1 n2 t1 hne (by omega), if_pos ⟨hD1, hc2.2⟩]
    have e4 : takeS (spOf (takeU (usOf d) n2 t2)) n1 t1 = (spOf (takeU (takeU (usOf d) n2 t2) n1 t1), true) := by
      unfold takeS
      rw [usOf_spOf, hu n2 n1 t2 (fun e => hne e.symm) (by omega), if_pos ⟨hD2, hc1.2⟩]
    rw [e1, e2]
    simp only
    rw [e3, e4]
    refine ⟨rfl, fun _ => ?_⟩
    have hcom : takeU (takeU (usOf d) n2 t2) n1 t1 = takeU (takeU (usOf d) n1 t1) n2 t2 := by
      have hT : ∀ (V : Us) (n t : Int), takeU V n t = V.set n.toNat ((useAt V n).1 + 1, max (useAt V n).2 t) := fun _ _ _ => rfl
      rw [hT (takeU (usOf d) n2 t2) n1 t1, hT (takeU (usOf d) n1 t1) n2 t2, hu n1 n2 t1 hne (by omega), hu n2 n1 t2 (fun e => hne e.symm) (by omega), hT (usOf d), hT (usOf d)]
      exact List.set_comm _ _ (by omega)
    rw [hcom]
  · have e2 : takeS d n2 t2 = (noS, false) := by unfold takeS; rw [if_neg hc2]
    have e3 : takeS (spOf (takeU (usOf d) n1 t1)) n2 t2 = (noS, false) := by
      unfold takeS
      rw [usOf_spOf, hu n1 n2 t1 hne (by omega), if_neg (fun hx => hc2 ⟨hc1.1, hx.2⟩)]
    rw [e1, e2]
    simp only
    rw [e3]
    exact ⟨rfl, fun hx => by simp at hx⟩
end Go.Proofs.Ytlmemjfinpccoaa
