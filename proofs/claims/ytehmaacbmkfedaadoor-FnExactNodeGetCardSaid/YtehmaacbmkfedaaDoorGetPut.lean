/-
  Reading a pointer's text gives the pointer back; and what is read is the text of what is read.
-/
import Derived.Test.YtehmaacbmkfedaaDoorGetIm2
import Derived.Test.YtehmaacbmkfedaaDoorInj
namespace Go.Proofs.YtehmaacbmkfedaaDoor
open Go.RowKit

theorem digs_no46 {l : List UInt8} (h : digs l) : ∀ x ∈ l, x ≠ 46 := by
  intro x hx e
  have := h x hx
  rw [e] at this
  exact absurd this (by decide)
theorem cuts_join {p q r s t : List UInt8} (hp : digs p) (hq : digs q) (hr : digs r) (hs : digs s) (ht : digs t) : cuts 46 (joinB p q r s t) = [p, q, r, s, t] := by
  unfold cuts
  rw [joinB_flat, cutA_at 46 _ _ _ (digs_no46 hp), cutA_at 46 _ _ _ (digs_no46 hq), cutA_at 46 _ _ _ (digs_no46 hr), cutA_at 46 _ _ _ (digs_no46 hs), cutA_none 46 _ _ (digs_no46 ht)]
  rfl
theorem num_dec (x : Int) (h : 0 ≤ x) (h2 : x ≤ 99460728) : isNum (strOf (Lib.decDigits x.toNat)) = true ∧ numV (strOf (Lib.decDigits x.toNat)) = x := by
  unfold isNum numV
  rw [strOf_toList, numG_yes (dec_good _ (by omega)), (dec_digs _).2.1]
  exact ⟨rfl, by show ((x.toNat : Nat) : Int) = x; omega⟩

theorem get_put {a b c d e : Int} (h : isOk a b c d e = true) : ptrG (strOf (putT a b c d e)) = (⟨a, b, c, d, e⟩, true) := by
  rcases putT_ok h with ⟨h1, h2⟩ | ⟨h0, h1, h2⟩
  · obtain ⟨rfl, rfl, rfl, rfl, rfl⟩ := hole_zero h1
    rw [h2]
    exact ptrG_hole
  · obtain ⟨i1, i2, i3, i4, i5⟩ := h1
    have hc : cutsB 46 (strOf (putT a b c d e)) = [strOf (Lib.decDigits a.toNat), strOf (Lib.decDigits b.toNat), strOf (Lib.decDigits c.toNat), strOf (Lib.decDigits d.toNat), strOf (Lib.decDigits e.toNat)] := by
      unfold cutsB
      rw [strOf_toList, h2, cuts_join (dec_digs _).1 (dec_digs _).1 (dec_digs _).1 (dec_digs _).1 (dec_digs _).1]
      rfl
    have n1 := num_dec a (by omega) (by omega)
    have n2 := num_dec b (by omega) (by omega)
    have n3 := num_dec c (by omega) (by omega)
    have n4 := num_dec d (by omega) (by omega)
    have n5 := num_dec e (by omega) (by omega)
    have hp : parts (strOf (putT a b c d e)) = (⟨a, b, c, d, e⟩, true) := by
      rw [parts_yes (by rw [hc]; rfl) (by
        rw [hc]
        intro p hp
        simp only [List.mem_cons, List.not_mem_nil, or_false] at hp
        rcases hp with rfl | rfl | rfl | rfl | rfl
        · exact n1.1
        · exact n2.1
        · exact n3.1
        · exact n4.1
        · exact n5.1), hc]
      unfold five
      simp only [List.getD_cons_zero, List.getD_cons_succ]
      rw [n1.2, n2.2, n3.2, n4.2, n5.2]
    have hne : strOf (putT a b c d e) ≠ ⟨#[45]⟩ := by
      intro e1
      have h3 := congrArg (fun x : ByteArray => (cutsB 46 x).length) e1
      rw [hc] at h3
      have h4 : (5 : Nat) = (cutsB 46 ⟨#[45]⟩).length := h3
      exact absurd h4 (by decide)
    rw [ptrG_yes hne (by rw [hp]) (by rw [hp]; exact h) (by rw [hp]; exact h0), hp]

theorem cutA_flat (c : UInt8) : ∀ (l cur : List UInt8) (p : List UInt8) (ps : List (List UInt8)), cutA c cur l = p :: ps → cur ++ l = p ++ ps.flatMap (fun x => c :: x)
  | [], cur, p, ps, h => by
    cases h
    simp
  | x :: l, cur, p, ps, h => by
    by_cases hx : x = c
    · subst hx
      rw [cutA_hit] at h
      injection h with h1 h2
      cases ps with
      | nil =>
        have := (cutA_len x l []).2
        rw [h2] at this
        simp at this
      | cons q qs =>
        have := cutA_flat x l [] q qs h2
        rw [h1]
        simp only [List.flatMap_cons, List.nil_append] at this ⊢
        rw [this]
        simp
    · rw [cutA_miss cur l hx] at h
      have := cutA_flat c l _ p ps h
      rw [← this, List.append_assoc]
      rfl
theorem num_text {p : ByteArray} (h : isNum p = true) : p.data.toList = numText (numV p) := by
  unfold isNum at h
  by_cases hg : Good p.data.toList
  · unfold numV
    rw [numG_yes hg]
    exact (num_of_good hg).symm
  · rw [numG_no hg] at h
    exact absurd h (by decide)

theorem put_get {s : ByteArray} {a b c d e : Int} (h : ptrG s = (⟨a, b, c, d, e⟩, true)) : isOk a b c d e = true ∧ strOf (putT a b c d e) = s := by
  unfold ptrG at h
  by_cases h1 : s = ⟨#[45]⟩
  · rw [if_pos h1] at h
    injection h with h2 _
    cases h2
    exact ⟨by decide, by rw [h1]; rfl⟩
  · rw [if_neg h1] at h
    by_cases h2 : (parts s).2 = true ∧ (parts s).1.ok = true ∧ (parts s).1.hole = false
    · rw [if_pos h2] at h
      obtain ⟨k1, k2, k3⟩ := h2
      injection h with h3 _
      rw [h3] at k2 k3
      have k2' : isOk a b c d e = true := k2
      have k3' : isHole a b c d e = false := k3
      refine ⟨k2', ?_⟩
      have hp : parts s = (five (cutsB 46 s), true) ∧ (cutsB 46 s).length = 5 ∧ ∀ p ∈ cutsB 46 s, isNum p = true := by
        by_cases hh : (cutsB 46 s).length = 5 ∧ ∀ p ∈ cutsB 46 s, isNum p = true
        · exact ⟨parts_yes hh.1 hh.2, hh⟩
        · rw [parts_no hh] at k1
          exact absurd k1 (by decide)
      obtain ⟨hp1, hp2, hp3⟩ := hp
      rw [hp1] at h3
      have hput : putT a b c d e = joinB (numText a) (numText b) (numText c) (numText d) (numText e) := by
        unfold putT
        rw [if_pos k2', if_neg (by rw [k3']; decide)]
      apply bytes_inj
      rw [strOf_toList, hput]
      obtain ⟨ps, hps⟩ : ∃ ps, ps = cuts 46 s.data.toList := ⟨_, rfl⟩
      have hB : cutsB 46 s = ps.map strOf := by rw [hps]; rfl
      rw [hB] at hp2 hp3 h3
      match ps, hps, hp2, hp3, h3 with
      | [x0, x1, x2, x3, x4], hps, _, hp3, h3 =>
        have f := cutA_flat 46 s.data.toList [] x0 [x1, x2, x3, x4] hps.symm
        have t0 := num_text (hp3 (strOf x0) (by simp))
        have t1 := num_text (hp3 (strOf x1) (by simp))
        have t2 := num_text (hp3 (strOf x2) (by simp))
        have t3 := num_text (hp3 (strOf x3) (by simp))
        have t4 := num_text (hp3 (strOf x4) (by simp))
        rw [strOf_toList] at t0 t1 t2 t3 t4
        unfold five at h3
        simp only [List.map_cons, List.map_nil, List.getD_cons_zero, List.getD_cons_succ] at h3
        injection h3 with g0 g1 g2 g3 g4
        rw [g0] at t0
        rw [g1] at t1
        rw [g2] at t2
        rw [g3] at t3
        rw [g4] at t4
        rw [List.nil_append] at f
        rw [f, ← t0, ← t1, ← t2, ← t3, ← t4]
        simp [joinB]
    · rw [if_neg h2] at h
      injection h with _ h4
      exact absurd h4 (by decide)

theorem putT_short (a b c d e : Int) : (putT a b c d e).length ≤ 49 := by
  unfold putT
  have la := num_short a
  have lb := num_short b
  have lc := num_short c
  have ld := num_short d
  have le := num_short e
  split
  · split
    · simp
    · simp only [joinB, List.length_append, List.length_singleton]
      omega
  · simp

end Go.Proofs.YtehmaacbmkfedaaDoor
