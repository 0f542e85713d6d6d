/-
  Plain facts on the checksum: it changes where one byte changes, which the law on PtrFits asks.
-/
import Derived.Test.YtlfggmllpbghaaaSums
namespace Go.Proofs.Ytlfggmllpbghaaa

def tA : List UInt8 → Int
  | [] => 0
  | c :: l => (c.toNat : Int) + 1 + tA l
theorem fold_one (l : List UInt8) (p : Int × Int) (h : 0 ≤ p.1 ∧ p.1 < 9973) : (l.foldl sstep p).1 = (p.1 + tA l) % 9973 := by
  induction l generalizing p with
  | nil =>
    show p.1 = (p.1 + 0) % 9973
    omega
  | cons c l ih =>
    have e : tA (c :: l) = (c.toNat : Int) + 1 + tA l := rfl
    rw [List.foldl_cons, ih _ (by unfold sstep; dsimp only; omega), e]
    unfold sstep
    dsimp only
    generalize tA l = d
    generalize (c.toNat : Int) = x
    omega
theorem sumA_eq (l : List UInt8) : sumA l = (1 + tA l) % 9973 := fold_one l (1, 0) (by decide)
theorem tA_set (l : List UInt8) (k : Nat) (c : UInt8) (h : k < l.length) : tA (l.set k c) = tA l + (c.toNat : Int) - (l[k].toNat : Int) := by
  induction l generalizing k with
  | nil => simp at h
  | cons d l ih =>
    cases k with
    | zero =>
      show (c.toNat : Int) + 1 + tA l = (d.toNat : Int) + 1 + tA l + (c.toNat : Int) - (d.toNat : Int)
      omega
    | succ k =>
      have hk : k < l.length := by simpa using h
      have := ih k hk
      show (d.toNat : Int) + 1 + tA (l.set k c) = (d.toNat : Int) + 1 + tA l + (c.toNat : Int) - ((l[k]'hk).toNat : Int)
      omega
theorem sumT_parts {l m : List UInt8} (h : sumT l = sumT m) : sumA l = sumA m ∧ sumB l = sumB m := by
  have h1 := sums_bd l
  have h2 := sums_bd m
  unfold sumT at h
  omega
theorem sum_changed (l : List UInt8) (k : Nat) (c : UInt8) (h : k < l.length) (hc : c ≠ l[k]) : sumT (l.set k c) ≠ sumT l := by
  intro e
  have h1 := (sumT_parts e).1
  rw [sumA_eq, sumA_eq, tA_set l k c h] at h1
  have h2 := u8_bd c
  have h3 := u8_bd l[k]
  have h4 : (c.toNat : Int) ≠ (l[k].toNat : Int) := fun e => hc (UInt8.toNat_inj.1 (by omega))
  omega

end Go.Proofs.Ytlfggmllpbghaaa
