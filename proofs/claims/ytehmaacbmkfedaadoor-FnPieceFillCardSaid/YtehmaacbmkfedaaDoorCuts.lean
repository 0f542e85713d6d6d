/-
  A text cut at each byte of a kind: the pieces, one by one; and that the library's cut into at most so many pieces finds the same where they are no more.
-/
import Derived.Test.YtehmaacbmkfedaaDoorDec
import Derived.Lib.Split
namespace Go.Proofs.YtehmaacbmkfedaaDoor
open Go.RowKit

def cutA (c : UInt8) (cur : List UInt8) : List UInt8 → List (List UInt8)
  | [] => [cur]
  | x :: l => if x = c then cur :: cutA c [] l else cutA c (cur ++ [x]) l
def cuts (c : UInt8) (l : List UInt8) : List (List UInt8) := cutA c [] l

theorem cutA_hit (c : UInt8) (cur l : List UInt8) : cutA c cur (c :: l) = cur :: cutA c [] l := if_pos rfl
theorem cutA_miss {c x : UInt8} (cur l : List UInt8) (h : x ≠ c) : cutA c cur (x :: l) = cutA c (cur ++ [x]) l := if_neg h
theorem cutA_none (c : UInt8) : ∀ (l cur : List UInt8), (∀ x ∈ l, x ≠ c) → cutA c cur l = [cur ++ l]
  | [], cur, _ => by rw [List.append_nil]; rfl
  | x :: l, cur, h => by
    rw [cutA_miss cur l (h x (by simp)), cutA_none c l _ (fun y hy => h y (by simp [hy])), List.append_assoc]
    rfl
theorem cutA_at (c : UInt8) : ∀ (b cur r : List UInt8), (∀ x ∈ b, x ≠ c) → cutA c cur (b ++ c :: r) = (cur ++ b) :: cutA c [] r
  | [], cur, r, _ => by rw [List.nil_append, cutA_hit, List.append_nil]
  | x :: b, cur, r, h => by
    rw [List.cons_append, cutA_miss cur _ (h x (by simp)), cutA_at c b _ r (fun y hy => h y (by simp [hy])), List.append_assoc]
    rfl
theorem cutA_len (c : UInt8) : ∀ (l cur : List UInt8), (cutA c cur l).length ≤ l.length + 1 ∧ 1 ≤ (cutA c cur l).length
  | [], cur => ⟨Nat.le_refl _, Nat.le_refl _⟩
  | x :: l, cur => by
    unfold cutA
    split
    · have := cutA_len c l []
      simp only [List.length_cons]
      omega
    · have := cutA_len c l (cur ++ [x])
      simp only [List.length_cons]
      omega
/-- No piece is longer than the text. -/
theorem cutA_short (c : UInt8) : ∀ (l cur p : List UInt8), p ∈ cutA c cur l → p.length ≤ cur.length + l.length
  | [], cur, p, h => by
    rw [List.mem_singleton.1 h]
    simp
  | x :: l, cur, p, h => by
    unfold cutA at h
    split at h
    · rcases List.mem_cons.1 h with rfl | h
      · omega
      · have := cutA_short c l [] p h
        simp only [List.length_cons, List.length_nil] at this ⊢
        omega
    · have := cutA_short c l (cur ++ [x]) p h
      simp only [List.length_append, List.length_cons, List.length_nil] at this ⊢
      omega

theorem idxc (c : UInt8) : ∀ l : List UInt8, (Lib.index l [c] = -1 ∧ ∀ x ∈ l, x ≠ c) ∨ ∃ i : Nat, Lib.index l [c] = i ∧ l = l.take i ++ c :: l.drop (i + 1) ∧ ∀ x ∈ l.take i, x ≠ c
  | [] => .inl ⟨rfl, by simp⟩
  | b :: l => by
    by_cases hb : b = c
    · subst hb
      right
      exact ⟨0, by simp [Lib.index], by simp, by simp⟩
    · have hp : ([c] : List UInt8).isPrefixOf (b :: l) = false := by
        simp only [List.isPrefixOf, Bool.and_true]
        exact beq_eq_false_iff_ne.2 fun e => hb e.symm
      rcases idxc c l with ⟨h1, h2⟩ | ⟨i, h1, h2, h3⟩
      · left
        refine ⟨by simp [Lib.index, hp, h1], ?_⟩
        intro x hx
        rcases List.mem_cons.1 hx with rfl | hx
        · exact hb
        · exact h2 x hx
      · right
        refine ⟨i + 1, ?_, ?_, ?_⟩
        · have : ¬ (i : Int) = -1 := by omega
          simp [Lib.index, hp, h1, this]
        · rw [List.take_succ_cons, List.drop_succ_cons, List.cons_append, ← h2]
        · intro x hx
          rw [List.take_succ_cons] at hx
          rcases List.mem_cons.1 hx with rfl | hx
          · exact hb
          · exact h3 x hx

/-- Where the pieces are no more than are asked for, they are those; else there are as many as are asked for. -/
theorem splitK_cuts (c : UInt8) : ∀ (k : Nat) (l : List UInt8),
    ((cuts c l).length ≤ k + 1 → Lib.splitK [c] 0 k l = cuts c l) ∧ (k + 1 < (cuts c l).length → (Lib.splitK [c] 0 k l).length = k + 1)
  | 0, l => by
    refine ⟨fun h => ?_, fun _ => rfl⟩
    rcases idxc c l with ⟨_, h2⟩ | ⟨i, h1, h2, h3⟩
    · unfold cuts
      rw [cutA_none c l [] h2]
      rfl
    · exfalso
      unfold cuts at h
      rw [h2, cutA_at c _ _ _ h3, List.length_cons] at h
      have := (cutA_len c (l.drop (i + 1)) []).2
      omega
  | k + 1, l => by
    rcases idxc c l with ⟨h1, h2⟩ | ⟨i, h1, h2, h3⟩
    · have hc : cuts c l = [l] := by
        unfold cuts
        rw [cutA_none c l [] h2]
        rfl
      have hs : Lib.splitK [c] 0 (k + 1) l = [l] := by
        unfold Lib.splitK
        rw [h1]
        rfl
      rw [hc, hs]
      exact ⟨fun _ => rfl, fun h => by simp at h⟩
    · have hc : cuts c l = l.take i :: cuts c (l.drop (i + 1)) := by
        have e : cuts c l = cutA c [] (l.take i ++ c :: l.drop (i + 1)) := by
          rw [← h2]
          rfl
        rw [e, cutA_at c _ _ _ h3]
        rfl
      have hs : Lib.splitK [c] 0 (k + 1) l = l.take i :: Lib.splitK [c] 0 k (l.drop (i + 1)) := by
        have hne : ((i : Int) == -1) = false := by rw [beq_eq_false_iff_ne]; omega
        rw [Lib.splitK, h1, hne]
        rfl
      have ih := splitK_cuts c k (l.drop (i + 1))
      rw [hc, hs, List.length_cons, List.length_cons]
      exact ⟨fun h => by rw [ih.1 (by omega)], fun h => by rw [ih.2 (by omega)]⟩

/-- The pieces as texts. -/
def cutsB (c : UInt8) (s : ByteArray) : List ByteArray := (cuts c s.data.toList).map strOf
theorem cutsB_len (c : UInt8) (s : ByteArray) : (cutsB c s).length = (cuts c s.data.toList).length := List.length_map ..
theorem split_as (l : List ByteArray) : l = (l.map (·.data.toList)).map strOf := by
  rw [List.map_map]
  conv => lhs; rw [← List.map_id l]
  rfl
theorem splitB_cuts (c : UInt8) (k : Nat) (s : ByteArray) (h : (cutsB c s).length ≤ k + 1) : Lib.splitB ⟨#[c]⟩ 0 k s = cutsB c s := by
  rw [split_as (Lib.splitB _ _ _ _), Lib.splitB_data, show (⟨#[c]⟩ : ByteArray).data.toList = [c] from rfl, (splitK_cuts c k s.data.toList).1 (by rw [← cutsB_len]; exact h)]
  rfl
theorem splitB_many (c : UInt8) (k : Nat) (s : ByteArray) (h : k + 1 < (cutsB c s).length) : (Lib.splitB ⟨#[c]⟩ 0 k s).length = k + 1 := by
  have e := congrArg List.length (Lib.splitB_data ⟨#[c]⟩ 0 k s)
  rw [List.length_map, show (⟨#[c]⟩ : ByteArray).data.toList = [c] from rfl, (splitK_cuts c k s.data.toList).2 (by rw [← cutsB_len]; exact h)] at e
  exact e
/-- Asked for one more than n pieces, the library answers n of them just where there are n. -/
theorem split_one (c : UInt8) (n : Nat) (s : ByteArray) (hn : 1 ≤ n) :
    ((cutsB c s).length = n ∧ Lib.splitB ⟨#[c]⟩ 0 (min (n + 1) (s.size + 1) - 1) s = cutsB c s) ∨ ((cutsB c s).length ≠ n ∧ (Lib.splitB ⟨#[c]⟩ 0 (min (n + 1) (s.size + 1) - 1) s).length ≠ n) := by
  have hl := (cutA_len c s.data.toList []).1
  have hlen : s.data.toList.length = s.size := by simp
  have hb : (cutsB c s).length ≤ s.size + 1 := by
    rw [cutsB_len, ← hlen]
    exact hl
  by_cases hx : (cutsB c s).length ≤ min (n + 1) (s.size + 1) - 1 + 1
  · have h := splitB_cuts c (min (n + 1) (s.size + 1) - 1) s hx
    by_cases hy : (cutsB c s).length = n
    · exact .inl ⟨hy, h⟩
    · exact .inr ⟨hy, by rw [h]; exact hy⟩
  · have h := splitB_many c (min (n + 1) (s.size + 1) - 1) s (by omega)
    have hm : min (n + 1) (s.size + 1) - 1 + 1 = n + 1 := by omega
    exact .inr ⟨by omega, by rw [h, hm]; omega⟩
theorem cutsB_short (c : UInt8) (s p : ByteArray) (h : p ∈ cutsB c s) : p.size ≤ s.size := by
  obtain ⟨l, hl, rfl⟩ := List.mem_map.1 h
  have := cutA_short c s.data.toList [] l hl
  rw [strOf_size]
  simpa using this

end Go.Proofs.YtehmaacbmkfedaaDoor
