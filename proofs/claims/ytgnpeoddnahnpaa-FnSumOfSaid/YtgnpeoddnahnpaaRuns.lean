/-
  Plain facts on runs of equal bytes: packing run by run and packing byte by byte give one text. No condition.
-/
import Derived.Test.YtgnpeoddnahnpaaRows
namespace Go.Proofs.Ytgnpeoddnahnpaa

def rlc (c : UInt8) : Nat → List UInt8 → Nat
  | 0, _ => 0
  | _ + 1, [] => 0
  | m + 1, d :: l => if d = c then rlc c m l + 1 else 0
theorem rlc_le (c : UInt8) (m : Nat) (l : List UInt8) : rlc c m l ≤ m ∧ rlc c m l ≤ l.length := by
  induction m generalizing l with
  | zero => simp [rlc]
  | succ m ih =>
    cases l with
    | nil => simp [rlc]
    | cons d l =>
      unfold rlc
      have := ih l
      split <;> simp <;> omega
theorem rlc_nil (c : UInt8) (m : Nat) : rlc c m [] = 0 := by cases m <;> rfl
theorem rlc_hit (c : UInt8) (m : Nat) (l : List UInt8) : rlc c (m + 1) (c :: l) = rlc c m l + 1 := by simp [rlc]
theorem rlc_miss (c d : UInt8) (m : Nat) (l : List UInt8) (h : d ≠ c) : rlc c (m + 1) (d :: l) = 0 := by simp [rlc, h]
theorem rlc_more (c : UInt8) (m : Nat) (l : List UInt8) (h : rlc c m l < m) : rlc c (m + 1) l = rlc c m l := by
  induction m generalizing l with
  | zero => omega
  | succ m ih =>
    cases l with
    | nil => rfl
    | cons d l =>
      by_cases hd : d = c
      · subst hd
        rw [rlc_hit] at h ⊢
        rw [rlc_hit, ih l (by omega)]
      · rw [rlc_miss c d _ _ hd, rlc_miss c d _ _ hd]

def rl : List UInt8 → Nat
  | [] => 0
  | c :: l => rlc c 8 l + 1
theorem rl_bd (l : List UInt8) (h : 0 < l.length) : 1 ≤ rl l ∧ rl l ≤ 9 ∧ rl l ≤ l.length := by
  cases l with
  | nil => simp at h
  | cons c l =>
    have := rlc_le c 8 l
    simp only [rl, List.length_cons]
    omega

def pack : List UInt8 → List UInt8
  | [] => []
  | c :: l => if 4 ≤ rl (c :: l) ∨ c = 126 then 126 :: UInt8.ofNat (48 + rl (c :: l)) :: c :: pack (l.drop (rlc c 8 l)) else c :: pack l
termination_by l => l.length
decreasing_by
  · simp only [List.length_drop, List.length_cons]; omega
  · simp

theorem pack_nil : pack [] = [] := by rw [pack]
theorem pack_yes (c : UInt8) (l : List UInt8) (h : 4 ≤ rl (c :: l) ∨ c = 126) : pack (c :: l) = [126, UInt8.ofNat (48 + rl (c :: l)), c] ++ pack ((c :: l).drop (rl (c :: l))) := by
  rw [pack, if_pos h]
  rfl
theorem pack_no (c : UInt8) (l : List UInt8) (h : ¬ (4 ≤ rl (c :: l) ∨ c = 126)) : pack (c :: l) = [c] ++ pack l := by
  rw [pack, if_neg h]
  rfl

def piece (c : UInt8) (n : Nat) : List UInt8 := if 4 ≤ n ∨ c = 126 then [126, UInt8.ofNat (48 + n), c] else List.replicate n c
theorem short_run (c : UInt8) (hc : c ≠ 126) (m : Nat) (l : List UInt8) (h : rlc c 8 l = m) (hm : m < 3) : pack (c :: l) = List.replicate (m + 1) c ++ pack (l.drop m) := by
  induction m generalizing l with
  | zero =>
    rw [pack_no c l (by simp only [rl, h]; intro h; rcases h with h | h; omega; exact hc h)]
    rfl
  | succ m ih =>
    have h' := h
    cases l with
    | nil => simp [rlc] at h
    | cons d l =>
      by_cases hd : d = c
      · subst hd
        rw [rlc_hit] at h
        have h7 : rlc d 7 l = m := by omega
        have h8 := rlc_more d 7 l (by omega)
        rw [pack_no d (d :: l) (by simp only [rl, h']; intro h; rcases h with h | h; omega; exact hc h), ih l (h8.trans h7) (by omega)]
        rfl
      · rw [rlc_miss c d _ _ hd] at h
        omega
theorem pack_run (c : UInt8) (l : List UInt8) : pack (c :: l) = piece c (rl (c :: l)) ++ pack ((c :: l).drop (rl (c :: l))) := by
  unfold piece
  by_cases h : 4 ≤ rl (c :: l) ∨ c = 126
  · rw [if_pos h, pack_yes c l h]
  · rw [if_neg h]
    have hc : c ≠ 126 := fun e => h (.inr e)
    have hl : ¬ 4 ≤ rl (c :: l) := fun e => h (.inl e)
    simp only [rl] at hl ⊢
    exact short_run c hc _ l rfl (by omega)
theorem piece_len (c : UInt8) (n : Nat) (h : 1 ≤ n) : (piece c n).length ≤ 3 * n := by
  unfold piece
  split
  · simp; omega
  · simp; omega
theorem pack_len (l : List UInt8) : (pack l).length ≤ 3 * l.length := by
  induction hn : l.length using Nat.strongRecOn generalizing l with
  | _ n ih =>
    cases l with
    | nil => simp [pack_nil]
    | cons c l =>
      have hb := rl_bd (c :: l) (by simp)
      rw [pack_run, List.length_append]
      have h1 := piece_len c (rl (c :: l)) hb.1
      have h2 := ih ((c :: l).drop (rl (c :: l))).length (by rw [List.length_drop]; omega) _ rfl
      rw [List.length_drop] at h2
      omega

theorem drop_at (s : ByteArray) (k : Nat) (h : k < s.size) : s.data.toList.drop k = s[k] :: s.data.toList.drop (k + 1) := by
  rw [List.drop_eq_getElem_cons (by simpa using h)]
  rfl

end Go.Proofs.Ytgnpeoddnahnpaa
