/-
  Plain facts on the checksum: it changes where one byte changes, and where two unlike neighbours change places.
-/
import Derived.Test.YtgnpeoddnahnpaaSums
namespace Go.Proofs.Ytgnpeoddnahnpaa

def tA : List UInt8 → Int
  | [] => 0
  | c :: l => (c.toNat : Int) + 1 + tA l
theorem fold_one (l : List UInt8) (p : Int × Int) (h : 0 ≤ p.1 ∧ p.1 < 9973) : (l.foldl sstep p).1 = (p.1 + tA l) % 9973 := by
  induction l generalizing p with
  | nil =>
    show p.1 = (p.1 + 0) % 9973
    omega
  | cons c l ih =>
    have e : tA (c :: l) = (c.toNat : Int) + 1 + tA l := rfl
    rw [List.foldl_cons, ih _ (by unfold sstep; dsimp only; omega), e]
    unfold sstep
    dsimp only
    generalize tA l = d
    generalize (c.toNat : Int) = x
    omega
theorem sumA_eq (l : List UInt8) : sumA l = (1 + tA l) % 9973 := fold_one l (1, 0) (by decide)
theorem tA_set (l : List UInt8) (k : Nat) (c : UInt8) (h : k < l.length) : tA (l.set k c) = tA l + (c.toNat : Int) - (l[k].toNat : Int) := by
  induction l generalizing k with
  | nil => simp at h
  | cons d l ih =>
    cases k with
    | zero =>
      show (c.toNat : Int) + 1 + tA l = (d.toNat : Int) + 1 + tA l + (c.toNat : Int) - (d.toNat : Int)
      omega
    | succ k =>
      have hk : k < l.length := by simpa using h
      have := ih k hk
      show (d.toNat : Int) + 1 + tA (l.set k c) = (d.toNat : Int) + 1 + tA l + (c.toNat : Int) - ((l[k]'hk).toNat : Int)
      omega
theorem sumT_parts {l m : List UInt8} (h : sumT l = sumT m) : sumA l = sumA m ∧ sumB l = sumB m := by
  have h1 := sums_bd l
  have h2 := sums_bd m
  unfold sumT at h
  omega
theorem sum_changed (l : List UInt8) (k : Nat) (c : UInt8) (h : k < l.length) (hc : c ≠ l[k]) : sumT (l.set k c) ≠ sumT l := by
  intro e
  have h1 := (sumT_parts e).1
  rw [sumA_eq, sumA_eq, tA_set l k c h] at h1
  have h2 := u8_bd c
  have h3 := u8_bd l[k]
  have h4 : (c.toNat : Int) ≠ (l[k].toNat : Int) := fun e => hc (UInt8.toNat_inj.1 (by omega))
  omega
theorem fold_two (l : List UInt8) (p q : Int × Int) (h1 : p.1 = q.1) (h2 : p.2 ≠ q.2) (hp : 0 ≤ p.2 ∧ p.2 < 9973) (hq : 0 ≤ q.2 ∧ q.2 < 9973) : (l.foldl sstep p).2 ≠ (l.foldl sstep q).2 := by
  induction l generalizing p q with
  | nil => exact h2
  | cons c l ih =>
    rw [List.foldl_cons, List.foldl_cons]
    apply ih
    · unfold sstep; dsimp only; rw [h1]
    · unfold sstep; dsimp only; rw [h1]; omega
    · unfold sstep; dsimp only; omega
    · unfold sstep; dsimp only; omega
theorem swap_at (t : List UInt8) (a b : UInt8) (r : List UInt8) : ((t ++ a :: b :: r).set t.length b).set (t.length + 1) a = t ++ b :: a :: r := by
  rw [List.set_append_right _ _ (Nat.le_refl _), Nat.sub_self, List.set_cons_zero, List.set_append_right _ _ (by omega), show t.length + 1 - t.length = 1 by omega]
  rfl
theorem swap_parts (l : List UInt8) (k : Nat) (h : k + 1 < l.length) : l = l.take k ++ l[k] :: l[k + 1] :: l.drop (k + 2) ∧ (l.set k l[k + 1]).set (k + 1) l[k] = l.take k ++ l[k + 1] :: l[k] :: l.drop (k + 2) := by
  have e1 : l = l.take k ++ l[k] :: l[k + 1] :: l.drop (k + 2) := by
    conv => lhs; rw [← List.take_append_drop k l, List.drop_eq_getElem_cons (show k < l.length by omega), List.drop_eq_getElem_cons (show k + 1 < l.length by omega)]
  refine ⟨e1, ?_⟩
  have hl : (l.take k).length = k := by rw [List.length_take]; omega
  have e2 := swap_at (l.take k) l[k] l[k + 1] (l.drop (k + 2))
  rw [hl, ← e1] at e2
  exact e2
theorem sum_swapped (l : List UInt8) (k : Nat) (h : k + 1 < l.length) (hc : l[k] ≠ l[k + 1]) : sumT ((l.set k l[k + 1]).set (k + 1) l[k]) ≠ sumT l := by
  intro e
  have h1 := (sumT_parts e).2
  obtain ⟨e1, e2⟩ := swap_parts l k h
  obtain ⟨t, ht⟩ : ∃ t, t = l.take k := ⟨_, rfl⟩
  obtain ⟨r, hr⟩ : ∃ r, r = l.drop (k + 2) := ⟨_, rfl⟩
  obtain ⟨a, ha⟩ : ∃ a, a = l[k] := ⟨_, rfl⟩
  obtain ⟨b, hb⟩ : ∃ b, b = l[k + 1] := ⟨_, rfl⟩
  rw [← ha, ← hb] at hc
  have e3 : sumB l = ((b :: r).foldl sstep (sstep (sums t) a)).2 := by
    unfold sumB sums
    rw [e1, ← ht, ← hr, ← ha, ← hb, List.foldl_append]
    rfl
  have e4 : sumB ((l.set k l[k + 1]).set (k + 1) l[k]) = ((a :: r).foldl sstep (sstep (sums t) b)).2 := by
    unfold sumB sums
    rw [e2, ← ht, ← hr, ← ha, ← hb, List.foldl_append]
    rfl
  rw [e3, e4, List.foldl_cons, List.foldl_cons] at h1
  have h2 := u8_bd a
  have h3 := u8_bd b
  have h4 : (a.toNat : Int) ≠ (b.toNat : Int) := fun e => hc (UInt8.toNat_inj.1 (by omega))
  obtain ⟨b1, b2, b3, b4⟩ := sums_bd t
  unfold sumA at b1 b2
  unfold sumB at b3 b4
  refine fold_two r _ _ ?_ ?_ ?_ ?_ h1
  · unfold sstep; dsimp only; omega
  · unfold sstep; dsimp only; omega
  · unfold sstep; dsimp only; omega
  · unfold sstep; dsimp only; omega

end Go.Proofs.Ytgnpeoddnahnpaa
