/-
  The first field of the text of a record: how it is cut off at its colon, and how it is read from the left: both find it just where it is.
-/
import Derived.Test.YtehmaacbmkfedaaDoorRecInj
namespace Go.Proofs.YtehmaacbmkfedaaDoor
open Go.RowKit

theorem idx58 : ∀ l : List UInt8, (Lib.index l [58] = -1 ∧ ∀ c ∈ l, c ≠ 58) ∨ ∃ i : Nat, Lib.index l [58] = i ∧ l = l.take i ++ 58 :: l.drop (i + 1) ∧ ∀ c ∈ l.take i, c ≠ 58
  | [] => .inl ⟨rfl, by simp⟩
  | b :: l => by
    by_cases hb : b = 58
    · subst hb
      right
      exact ⟨0, by simp [Lib.index], by simp, by simp⟩
    · have hp : ([58] : List UInt8).isPrefixOf (b :: l) = false := by
        simp only [List.isPrefixOf, Bool.and_true]
        exact beq_eq_false_iff_ne.2 fun e => hb e.symm
      rcases idx58 l with ⟨h1, h2⟩ | ⟨i, h1, h2, h3⟩
      · left
        refine ⟨by simp [Lib.index, hp, h1], ?_⟩
        intro c hc
        rcases List.mem_cons.1 hc with rfl | hc
        · exact hb
        · exact h2 c hc
      · right
        refine ⟨i + 1, ?_, ?_, ?_⟩
        · have : ¬ (i : Int) = -1 := by omega
          simp [Lib.index, hp, h1, this]
        · rw [List.take_succ_cons, List.drop_succ_cons, List.cons_append, ← h2]
        · intro c hc
          rw [List.take_succ_cons] at hc
          rcases List.mem_cons.1 hc with rfl | hc
          · exact hb
          · exact h3 c hc

theorem cut58 (l : List UInt8) : (∃ b a, Lib.cut l [58] = (b, a, true) ∧ l = b ++ 58 :: a ∧ ∀ c ∈ b, c ≠ 58) ∨ (Lib.cut l [58] = (l, [], false) ∧ ∀ c ∈ l, c ≠ 58) := by
  rcases idx58 l with ⟨h1, h2⟩ | ⟨i, h1, h2, h3⟩
  · right
    exact ⟨by simp [Lib.cut, h1], h2⟩
  · left
    refine ⟨l.take i, l.drop (i + 1), ?_, h2, h3⟩
    have : ¬ (i : Int) = -1 := by omega
    simp [Lib.cut, h1, this]

theorem sep_split : ∀ (l m x y : List UInt8), (∀ c ∈ l, c ≠ 58) → (∀ c ∈ m, c ≠ 58) → l ++ 58 :: x = m ++ 58 :: y → l = m ∧ x = y
  | [], [], _, _, _, _, h => by simpa using h
  | [], c :: m, x, y, _, hm, h => by
    simp only [List.nil_append, List.cons_append, List.cons.injEq] at h
    exact absurd h.1.symm (hm c (by simp))
  | c :: l, [], x, y, hl, _, h => by
    simp only [List.nil_append, List.cons_append, List.cons.injEq] at h
    exact absurd h.1 (hl c (by simp))
  | c :: l, d :: m, x, y, hl, hm, h => by
    simp only [List.cons_append, List.cons.injEq] at h
    obtain ⟨h1, h2⟩ := sep_split l m x y (fun a ha => hl a (by simp [ha])) (fun a ha => hm a (by simp [ha])) h.2
    exact ⟨by rw [h.1, h1], h2⟩

theorem digs_ne {l : List UInt8} (h : digs l) : ∀ c ∈ l, c ≠ 58 := by
  intro c hc e
  have := h c hc
  rw [e] at this
  exact absurd this (by decide)
theorem encF_split (f : ByteArray) (r : List UInt8) : encF f ++ r = Lib.decDigits f.size ++ 58 :: (f.data.toList ++ r) := by simp [encF]
theorem encF_of {b a : List UInt8} (hg : Good b) (hn : val b ≤ a.length) : encF (strOf (a.take (val b))) ++ a.drop (val b) = b ++ 58 :: a := by
  rw [encF_split, strOf_size, strOf_toList, List.take_append_drop, List.length_take, Nat.min_eq_left hn, dec_val _ b rfl hg]

/-- What the cut at the colon finds. -/
theorem cut_field (l : List UInt8) (hl : l.length ≤ 999999999) :
    (∃ f r, l = encF f ++ r ∧ Lib.cut l [58] = (Lib.decDigits f.size, f.data.toList ++ r, true) ∧ numG (Lib.decDigits f.size) = ((f.size : Int), true)) ∨
    ((∀ f r, l ≠ encF f ++ r) ∧ ∃ b a o, Lib.cut l [58] = (b, a, o) ∧ b.length ≤ l.length ∧ a.length ≤ l.length ∧ (o = false ∨ (numG b).2 = false ∨ (a.length : Int) < (numG b).1)) := by
  by_cases hx : ∃ f r, l = encF f ++ r
  · obtain ⟨f, r, h⟩ := hx
    left
    have hf : f.size ≤ 999999999 := by
      have := congrArg List.length h
      rw [List.length_append, encF_len] at this
      omega
    refine ⟨f, r, h, ?_, ?_⟩
    · rcases cut58 l with ⟨b, a, h1, h2, h3⟩ | ⟨h1, h2⟩
      · rw [h, encF_split] at h2
        obtain ⟨h4, h5⟩ := sep_split _ _ _ _ (digs_ne (dec_digs f.size).1) h3 h2
        rw [h1, h4, h5]
      · exact absurd rfl (h2 58 (by rw [h, encF_split]; simp))
    · rw [numG_yes (dec_good _ hf), (dec_digs _).2.1]
  · right
    refine ⟨fun f r e => hx ⟨f, r, e⟩, ?_⟩
    rcases cut58 l with ⟨b, a, h1, h2, h3⟩ | ⟨h1, h2⟩
    · have hlen := congrArg List.length h2
      simp only [List.length_append, List.length_cons] at hlen
      refine ⟨b, a, true, h1, by omega, by omega, ?_⟩
      by_cases hg : Good b
      · right; right
        rw [numG_yes hg]
        by_cases hn : val b ≤ a.length
        · exact absurd ⟨_, _, h2.trans (encF_of hg hn).symm⟩ hx
        · show (a.length : Int) < (val b : Int)
          omega
      · right; left
        rw [numG_no hg]
    · exact ⟨l, [], false, h1, by omega, by simp, .inl rfl⟩

theorem dk_app : ∀ (m : Nat) (d x : List UInt8), digs d → d.length ≤ m → dk m (d ++ 58 :: x) = d.length
  | 0, [], _, _, _ => rfl
  | 0, c :: d, _, _, h => by simp at h
  | m + 1, [], x, _, _ => by rw [List.nil_append, dk_miss _ _ _ (by decide)]; rfl
  | m + 1, c :: d, x, hd, h => by
    rw [List.cons_append, dk_hit _ _ _ (hd c (by simp)), dk_app m d x (fun a ha => hd a (by simp [ha])) (by simpa using h)]
    rfl

/-- What is read from the left. -/
theorem l1_field (l : List UInt8) (hl : l.length ≤ 999999999) :
    (∃ (f : ByteArray) (r : List UInt8) (k : Nat), l = encF f ++ r ∧ l1 l = ((f.size : Int), (k : Int)) ∧ 1 ≤ k ∧ k ≤ 9 ∧ l[k]? = some 58 ∧ k + 1 + f.size + r.length = l.length ∧ (l.drop (k + 1)).take f.size = f.data.toList ∧ l.drop (k + 1 + f.size) = r) ∨
    ((∀ f r, l ≠ encF f ++ r) ∧ ∃ n k : Nat, l1 l = ((n : Int), (k : Int)) ∧ n ≤ 999999999 ∧ k ≤ 9 ∧ k ≤ l.length ∧ (k = 0 ∨ l.length = k ∨ (∃ c, l[k]? = some c ∧ c ≠ 58) ∨ l.length < n + k + 1)) := by
  by_cases hx : ∃ f r, l = encF f ++ r
  · obtain ⟨f, r, h⟩ := hx
    left
    have hlen := congrArg List.length h
    rw [List.length_append, encF_len] at hlen
    have hgd := dec_good f.size (by omega)
    obtain ⟨d1, d2, d3⟩ := dec_digs f.size
    have h2 := h
    rw [encF_split] at h2
    have hdk : dk 9 l = (Lib.decDigits f.size).length := by rw [h2]; exact dk_app 9 _ _ d1 hgd.2.1
    have htk : l.take (dk 9 l) = Lib.decDigits f.size := by rw [hdk, h2, List.take_left]
    refine ⟨f, r, (Lib.decDigits f.size).length, h, ?_, List.length_pos_iff.2 d3, hgd.2.1, ?_, by omega, ?_, ?_⟩
    · unfold l1
      rw [htk, hdk, d2, if_neg]
      rintro ⟨e1, e2⟩
      refine hgd.2.2.2 e1 ?_
      rw [h2, List.head?_append] at e2
      cases hd : Lib.decDigits f.size with
      | nil => exact absurd hd d3
      | cons a t => rw [hd] at e2; simpa using e2
    · rw [h2, List.getElem?_append_right (Nat.le_refl _), Nat.sub_self]
      rfl
    · rw [h2, ← List.drop_drop, List.drop_left, List.drop_succ_cons, List.drop_zero]
      have : f.size = f.data.toList.length := by rw [Array.length_toList]; rfl
      rw [this, List.take_left]
    · rw [Nat.add_assoc, h2, ← List.drop_drop, List.drop_left, Nat.add_comm 1, List.drop_succ_cons]
      have : f.size = f.data.toList.length := by rw [Array.length_toList]; rfl
      rw [this, List.drop_left]
  · right
    refine ⟨fun f r e => hx ⟨f, r, e⟩, ?_⟩
    have hdl := dk_le 9 l
    have hdd := dk_digs 9 l
    by_cases hz : 1 < dk 9 l ∧ l.head? = some 48
    · refine ⟨0, 1, by unfold l1; rw [if_pos hz]; rfl, by omega, by omega, by omega, ?_⟩
      right; right; left
      obtain ⟨hz1, hz2⟩ := hz
      have h1 : 1 < l.length := by omega
      refine ⟨l[1], by rw [List.getElem?_eq_getElem h1], ?_⟩
      refine digs_ne hdd _ ?_
      rw [List.mem_take_iff_getElem]
      exact ⟨1, by omega, rfl⟩
    · have hv := val_small _ hdd (by rw [List.length_take]; omega)
      refine ⟨val (l.take (dk 9 l)), dk 9 l, by unfold l1; rw [if_neg hz], hv, by omega, by omega, ?_⟩
      by_cases hk0 : dk 9 l = 0
      · exact .inl hk0
      · by_cases hkl : l.length = dk 9 l
        · exact .inr (.inl hkl)
        · by_cases hc : l[dk 9 l]? = some 58
          · right; right; right
            refine Nat.lt_of_not_le fun hle => hx ?_
            have hg : Good (l.take (dk 9 l)) := by
              refine ⟨fun e => ?_, by rw [List.length_take]; omega, hdd, fun h1 e => hz ⟨by rw [List.length_take] at h1; omega, ?_⟩⟩
              · have := congrArg List.length e
                rw [List.length_take, List.length_nil] at this
                omega
              · cases l with
                | nil => simp at e
                | cons a t =>
                  cases hd : dk 9 (a :: t) with
                  | zero => exact absurd hd hk0
                  | succ m => rw [hd, List.take_succ_cons] at e; simpa using e
            have hlt : dk 9 l < l.length := by omega
            have hsplit : l = l.take (dk 9 l) ++ 58 :: l.drop (dk 9 l + 1) := by
              rw [List.getElem?_eq_getElem hlt, Option.some.injEq] at hc
              rw [← hc, ← List.drop_eq_getElem_cons hlt, List.take_append_drop]
            exact ⟨_, _, hsplit.trans (encF_of (a := l.drop (dk 9 l + 1)) hg (by rw [List.length_drop]; omega)).symm⟩
          · right; right; left
            have hlt : dk 9 l < l.length := by omega
            rw [List.getElem?_eq_getElem hlt] at hc ⊢
            exact ⟨_, rfl, fun e => hc (by rw [e])⟩

end Go.Proofs.YtehmaacbmkfedaaDoor
