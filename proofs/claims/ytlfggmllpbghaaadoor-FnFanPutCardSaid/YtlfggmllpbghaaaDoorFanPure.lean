/-
  What FanPut writes FanGet reads back, and it is no longer than a block.
-/
import Derived.Test.YtlfggmllpbghaaaDoorFanForth
namespace Go.Proofs.YtlfggmllpbghaaaDoor
open Go.RowKit

theorem digs_no44 {l : List UInt8} (h : digs l) : ∀ x ∈ l, x ≠ 44 := by
  intro x hx e
  have := h x hx
  rw [e] at this
  exact absurd this (by decide)
theorem putT_no44 {a b c d e : Int} (h : isOk a b c d e = true) : ∀ x ∈ putT a b c d e, x ≠ 44 := by
  rcases putT_ok h with ⟨_, h2⟩ | ⟨_, _, h2⟩
  · rw [h2]
    intro x hx
    rw [List.mem_singleton.1 hx]
    decide
  · rw [h2]
    intro x hx
    unfold joinB at hx
    simp only [List.mem_append, List.mem_singleton] at hx
    rcases hx with (((((((h | h) | h) | h) | h) | h) | h) | h) | h
    · exact digs_no44 (dec_digs _).1 x h
    · rw [h]; decide
    · exact digs_no44 (dec_digs _).1 x h
    · rw [h]; decide
    · exact digs_no44 (dec_digs _).1 x h
    · rw [h]; decide
    · exact digs_no44 (dec_digs _).1 x h
    · rw [h]; decide
    · exact digs_no44 (dec_digs _).1 x h
theorem putT_len {a b c d e : Int} (h : isOk a b c d e = true) : (putT a b c d e).length ≤ 31 := by
  rcases putT_ok h with ⟨_, h2⟩ | ⟨_, h1, h2⟩
  · rw [h2]
    simp
  · rw [h2]
    obtain ⟨i1, i2, i3, i4, i5⟩ := h1
    have la := dec_length 2 a.toNat (by omega)
    have lb := dec_length 2 b.toNat (by omega)
    have lc := dec_length 2 c.toNat (by omega)
    have ld := dec_length 8 d.toNat (by omega)
    have le := dec_length 2 e.toNat (by omega)
    simp only [joinB, List.length_append, List.length_singleton]
    omega
theorem text_rd {p : P5} (h : p.ok = true) : rdOk (strOf p.text) = true ∧ rdP (strOf p.text) = p := by
  obtain ⟨a, b, c, d, e⟩ := p
  have := get_put (a := a) (b := b) (c := c) (d := d) (e := e) h
  unfold rdOk rdP P5.text
  rw [this]
  exact ⟨rfl, rfl⟩

theorem fan_back {ps : List P5} (h4 : ps.length = 4) (hok : ∀ p ∈ ps, p.ok = true) (hs : someP ps = true) : fanR (strOf (textOf ps)) = (ps, true) ∧ (textOf ps).length ≤ 128 := by
  match ps, h4, hok, hs with
  | [p0, p1, p2, p3], _, hok, hs =>
    have k0 := hok p0 (by simp)
    have k1 := hok p1 (by simp)
    have k2 := hok p2 (by simp)
    have k3 := hok p3 (by simp)
    have e : textOf [p0, p1, p2, p3] = p0.text ++ 44 :: (p1.text ++ 44 :: (p2.text ++ 44 :: p3.text)) := by
      unfold textOf
      simp only [List.map_cons, List.map_nil]
      rw [joinP4]
      simp
    have n0 : ∀ x ∈ p0.text, x ≠ 44 := putT_no44 k0
    have n1 : ∀ x ∈ p1.text, x ≠ 44 := putT_no44 k1
    have n2 : ∀ x ∈ p2.text, x ≠ 44 := putT_no44 k2
    have n3 : ∀ x ∈ p3.text, x ≠ 44 := putT_no44 k3
    have hc : cutsB 44 (strOf (textOf [p0, p1, p2, p3])) = [strOf p0.text, strOf p1.text, strOf p2.text, strOf p3.text] := by
      unfold cutsB cuts
      rw [strOf_toList, e, cutA_at 44 _ _ _ n0, cutA_at 44 _ _ _ n1, cutA_at 44 _ _ _ n2, cutA_none 44 _ _ n3]
      rfl
    have hm : (cutsB 44 (strOf (textOf [p0, p1, p2, p3]))).map rdP = [p0, p1, p2, p3] := by
      rw [hc]
      simp only [List.map_cons, List.map_nil]
      rw [(text_rd k0).2, (text_rd k1).2, (text_rd k2).2, (text_rd k3).2]
    refine ⟨?_, ?_⟩
    · rw [fanR_yes (by rw [hc]; rfl) (by
        rw [hc]
        intro q hq
        simp only [List.mem_cons, List.not_mem_nil, or_false] at hq
        rcases hq with rfl | rfl | rfl | rfl
        · exact (text_rd k0).1
        · exact (text_rd k1).1
        · exact (text_rd k2).1
        · exact (text_rd k3).1) (by rw [hm]; exact hs), hm]
    · rw [e]
      have l0 : p0.text.length ≤ 31 := putT_len k0
      have l1 : p1.text.length ≤ 31 := putT_len k1
      have l2 : p2.text.length ≤ 31 := putT_len k2
      have l3 : p3.text.length ≤ 31 := putT_len k3
      simp only [List.length_append, List.length_cons]
      omega
/-- What FanPut answers, read back. -/
theorem fan_back2 {ps : List P5} {s : ByteArray} (h : fanG ps = (s, true)) : fanR s = (ps, true) ∧ s.size ≤ 128 := by
  by_cases hc : ps.length = 4 ∧ (∀ p ∈ ps, p.ok = true) ∧ someP ps = true
  · rw [fanG_yes hc.1 hc.2.1 hc.2.2] at h
    have hs : strOf (textOf ps) = s := congrArg Prod.fst h
    rw [← hs, strOf_size]
    exact fan_back hc.1 hc.2.1 hc.2.2
  · rw [fanG_no hc] at h
    have h2 : false = true := congrArg Prod.snd h
    exact absurd h2 (by decide)

end Go.Proofs.YtlfggmllpbghaaaDoor
