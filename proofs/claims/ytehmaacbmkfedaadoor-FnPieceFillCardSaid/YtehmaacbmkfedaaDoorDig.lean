/-
  Plain facts on number texts: which texts they are, and what they are the texts of.
-/
import Derived.Test.YtehmaacbmkfedaaDoorNum
import Derived.Lib.AtoiTie
namespace Go.Proofs.YtehmaacbmkfedaaDoor

def isD (c : UInt8) : Prop := 48 ≤ c.toNat ∧ c.toNat ≤ 57
instance (c : UInt8) : Decidable (isD c) := by unfold isD; infer_instance
def digs (l : List UInt8) : Prop := ∀ c ∈ l, isD c
instance (l : List UInt8) : Decidable (digs l) := by unfold digs; infer_instance
def Good (l : List UInt8) : Prop := l ≠ [] ∧ l.length ≤ 9 ∧ digs l ∧ (1 < l.length → l.head? ≠ some 48)
instance (l : List UInt8) : Decidable (Good l) := by unfold Good; infer_instance

def valF (acc : Nat) : List UInt8 → Nat
  | [] => acc
  | c :: l => valF (10 * acc + (c.toNat - 48)) l
def val (l : List UInt8) : Nat := valF 0 l
theorem valF_snoc (l : List UInt8) (c : UInt8) (acc : Nat) : valF acc (l ++ [c]) = 10 * valF acc l + (c.toNat - 48) := by
  induction l generalizing acc with
  | nil => rfl
  | cons d l ih => exact ih _
theorem val_snoc (l : List UInt8) (c : UInt8) : val (l ++ [c]) = 10 * val l + (c.toNat - 48) := valF_snoc l c 0
theorem valF_ge (l : List UInt8) (acc : Nat) : acc ≤ valF acc l := by
  induction l generalizing acc with
  | nil => exact Nat.le_refl _
  | cons d l ih =>
    have := ih (10 * acc + (d.toNat - 48))
    unfold valF
    omega
theorem valF_lt (l : List UInt8) (acc : Nat) (h : digs l) : valF acc l < (acc + 1) * 10 ^ l.length := by
  induction l generalizing acc with
  | nil =>
    show acc < (acc + 1) * 10 ^ 0
    rw [Nat.pow_zero]
    omega
  | cons d l ih =>
    have hd := h d (by simp)
    have := ih (10 * acc + (d.toNat - 48)) (fun c hc => h c (by simp [hc]))
    unfold valF
    have e : (acc + 1) * 10 ^ (d :: l).length = ((acc + 1) * 10) * 10 ^ l.length := by
      rw [List.length_cons, Nat.pow_succ, Nat.mul_comm (10 ^ l.length) 10, Nat.mul_assoc]
    rw [e]
    refine Nat.lt_of_lt_of_le this (Nat.mul_le_mul_right _ ?_)
    unfold isD at hd
    omega
theorem val_lt (l : List UInt8) (h : digs l) : val l < 10 ^ l.length := by
  have := valF_lt l 0 h
  unfold val
  omega
theorem ten9 : (10 : Nat) ^ 9 = 1000000000 := by rfl
theorem ten8 : (10 : Nat) ^ 8 = 100000000 := by rfl
theorem val_small (l : List UInt8) (h : digs l) (hl : l.length ≤ 9) : val l ≤ 999999999 := by
  have h1 := val_lt l h
  have h2 : 10 ^ l.length ≤ 10 ^ 9 := Nat.pow_le_pow_right (by decide) hl
  rw [ten9] at h2
  omega
theorem val_small8 (l : List UInt8) (h : digs l) (hl : l.length ≤ 8) : val l ≤ 99999999 := by
  have h1 := val_lt l h
  have h2 : 10 ^ l.length ≤ 10 ^ 8 := Nat.pow_le_pow_right (by decide) hl
  rw [ten8] at h2
  omega
theorem decFrom_val (l : List UInt8) (acc : Nat) (h : digs l) : Lib.decFrom acc l = some (valF acc l) := by
  induction l generalizing acc with
  | nil => rfl
  | cons d l ih =>
    have hd : isD d := h d (by simp)
    have hv : Lib.digitVal d = some (d.toNat - 48) := if_pos hd
    unfold Lib.decFrom
    rw [hv]
    simp only
    rw [ih _ (fun c hc => h c (by simp [hc])), Nat.mul_comm acc 10]
    rfl

theorem ofNat_dig (c : UInt8) (h : isD c) : UInt8.ofNat (48 + (c.toNat - 48)) = c := by
  unfold isD at h
  rw [show 48 + (c.toNat - 48) = c.toNat by omega]
  simp

theorem dec_val : ∀ (n : Nat) (l : List UInt8), l.length = n → Good l → Lib.decDigits (val l) = l := by
  intro n
  induction n with
  | zero =>
    intro l hl hg
    exact absurd (List.eq_nil_of_length_eq_zero hl) hg.1
  | succ n ih =>
    intro l hl hg
    obtain ⟨h0, h9, hd, hh⟩ := hg
    obtain ⟨l', c, rfl⟩ : ∃ l' c, l = l' ++ [c] := ⟨l.dropLast, l.getLast h0, (List.dropLast_concat_getLast h0).symm⟩
    have hc : isD c := hd c (by simp)
    have hd' : digs l' := fun x hx => hd x (by simp [hx])
    have hcn := ofNat_dig c hc
    simp only [List.length_append, List.length_cons, List.length_nil] at hl h9 hh
    unfold isD at hc
    rw [val_snoc]
    by_cases hl0 : l' = []
    · subst hl0
      rw [show val [] = 0 from rfl, dec_small _ (by omega), show 48 + (10 * 0 + (c.toNat - 48)) = 48 + (c.toNat - 48) by omega, hcn]
      rfl
    · obtain ⟨a, t, rfl⟩ : ∃ a t, l' = a :: t := by
        cases l' with
        | nil => exact absurd rfl hl0
        | cons a t => exact ⟨a, t, rfl⟩
      have ha : a ≠ 48 := by
        have := hh (by simp)
        simpa using this
      have hpos : 1 ≤ val (a :: t) := by
        have h1 := valF_ge t (10 * 0 + (a.toNat - 48))
        have h2 : isD a := hd' a (by simp)
        unfold isD at h2
        have h3 : a.toNat ≠ 48 := fun e => ha (UInt8.toNat_inj.1 e)
        have h4 : val (a :: t) = valF (10 * 0 + (a.toNat - 48)) t := rfl
        omega
      rw [dec_more _ (by omega), show (10 * val (a :: t) + (c.toNat - 48)) / 10 = val (a :: t) by omega, show (10 * val (a :: t) + (c.toNat - 48)) % 10 = c.toNat - 48 by omega,
        hcn, ih (a :: t) (by simp at hl ⊢; omega) ⟨by simp, by omega, hd', fun _ => by simpa using ha⟩]

theorem dec_head (v : Nat) (h : 1 ≤ v) : Lib.decDigits v ≠ [] ∧ (Lib.decDigits v).head? ≠ some 48 := by
  induction v using Nat.strongRecOn with
  | _ v ih =>
    by_cases h10 : v < 10
    · rw [dec_small v h10]
      refine ⟨by simp, ?_⟩
      intro e
      simp only [List.head?_cons, Option.some.injEq] at e
      have e2 := congrArg UInt8.toNat e
      simp at e2
      omega
    · obtain ⟨h1, h2⟩ := ih (v / 10) (by omega) (by omega)
      rw [dec_more v h10]
      refine ⟨by simp, ?_⟩
      cases hd : Lib.decDigits (v / 10) with
      | nil => exact absurd hd h1
      | cons a t =>
        rw [hd] at h2
        simpa using h2
theorem dec_length (k : Nat) : ∀ v : Nat, v < 10 ^ (k + 1) → (Lib.decDigits v).length ≤ k + 1 := by
  induction k with
  | zero =>
    intro v h
    rw [dec_small v (by simpa using h)]
    simp
  | succ k ih =>
    intro v h
    by_cases h10 : v < 10
    · rw [dec_small v h10]; simp
    · rw [dec_more v h10]
      have := ih (v / 10) (by rw [Nat.pow_succ] at h; omega)
      simp
      omega
theorem dec_digs (v : Nat) : digs (Lib.decDigits v) ∧ val (Lib.decDigits v) = v ∧ Lib.decDigits v ≠ [] := by
  induction v using Nat.strongRecOn with
  | _ v ih =>
    have hu : ∀ d : Nat, d < 10 → (UInt8.ofNat (48 + d)).toNat = 48 + d := by intro d hd; simp; omega
    by_cases h10 : v < 10
    · rw [dec_small v h10]
      have hv := hu v h10
      refine ⟨fun c hc => ?_, ?_, by simp⟩
      · simp only [List.mem_singleton] at hc
        subst hc
        unfold isD
        omega
      · show 10 * 0 + ((UInt8.ofNat (48 + v)).toNat - 48) = v
        omega
    · obtain ⟨h1, h2, h3⟩ := ih (v / 10) (by omega)
      have hv := hu (v % 10) (by omega)
      rw [dec_more v h10]
      refine ⟨fun c hc => ?_, ?_, by simp⟩
      · simp only [List.mem_append, List.mem_singleton] at hc
        rcases hc with hc | hc
        · exact h1 c hc
        · subst hc
          unfold isD
          omega
      · rw [val_snoc, h2, hv]
        omega
theorem dec_good (v : Nat) (h : v ≤ 999999999) : Good (Lib.decDigits v) := by
  obtain ⟨h1, h2, h3⟩ := dec_digs v
  refine ⟨h3, dec_length 8 v (by omega), h1, fun hl => ?_⟩
  by_cases h10 : v < 10
  · rw [dec_small v h10] at hl; simp at hl
  · exact (dec_head v (by omega)).2

def numG (l : List UInt8) : Int × Bool := if Good l then ((val l : Int), true) else (0, false)
theorem numG_yes {l : List UInt8} (h : Good l) : numG l = ((val l : Int), true) := if_pos h
theorem numG_no {l : List UInt8} (h : ¬ Good l) : numG l = (0, false) := if_neg h

theorem atoi_good {l : List UInt8} (h : Good l) : Lib.atoiAll l = .ok (val l : Int) := by
  obtain ⟨h0, h9, hd, _⟩ := h
  rw [Lib.atoiAll_short l (by omega)]
  cases l with
  | nil => exact absurd rfl h0
  | cons a t =>
    have ha : isD a := hd a (by simp)
    unfold isD at ha
    have h45 : (a == 45) = false := by
      rw [beq_eq_false_iff_ne]
      intro e
      subst e
      simp at ha
    have h43 : (a == 43) = false := by
      rw [beq_eq_false_iff_ne]
      intro e
      subst e
      simp at ha
    unfold Lib.atoi
    simp only [h45, h43, Lib.decNat, List.isEmpty_cons, Bool.false_eq_true, if_false, decFrom_val _ 0 hd]
    rfl
theorem num_back {v : Int} {l : List UInt8} (hl : l ≠ []) (h : numText v = l) : Good l ∧ (val l : Int) = v := by
  unfold numText at h
  split at h
  · rename_i hv
    subst h
    refine ⟨dec_good _ (by omega), ?_⟩
    rw [(dec_digs _).2.1]
    omega
  · exact absurd h.symm hl
theorem num_of_good {l : List UInt8} (h : Good l) : numText (val l : Int) = l := by
  have h2 := val_small l h.2.2.1 h.2.1
  unfold numText
  rw [if_pos ⟨by omega, by omega⟩, Int.toNat_natCast]
  exact dec_val _ l rfl h

end Go.Proofs.YtehmaacbmkfedaaDoor
