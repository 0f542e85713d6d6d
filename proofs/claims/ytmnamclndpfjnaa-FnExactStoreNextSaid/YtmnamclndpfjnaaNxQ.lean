/-
  Giving back reference by reference, as the specification does it, comes to what is left at the group's end.
-/
import Derived.Test.YtmnamclndpfjnaaDrp
namespace Go.Proofs.Ytmnamclndpfjnaa

theorem drop_sp {t : St} (h : SpOk t.sp) {n : Nat} (hn : n < 64) : (dropSt t n).sp = spOf (giveU (usOf t.sp) (n : Int)) := by
  rw [spOf_give h (n : Int) (x := t.sp.refs.getD n 0) (y := t.sp.last.getD n 0) (by omega) (by omega) (by rw [useAt_nat, usOf_at h.1 h.2.1 n hn])]
  simp [dropSt]

section
variable {s : St} (h : StOk s)
include h
theorem next_okT (k : Nat) (hk : k ≤ s.gone.length) : SpOk (spOf (nextU (usOf s.sp) (s.gone.take k))) := by
  have hl : (nextU (usOf s.sp) (s.gone.take k)).length = 64 := by rw [nextU_len, usOf_len h.sp.1 h.sp.2.1]
  refine ⟨by simp [spOf, hl], by simp [spOf, hl], fun i hi => ?_⟩
  rw [usOf_spOf, next_row h k hk i hi]
  have hw := h.sp.2.2 i hi
  unfold rowOk at hw ⊢
  obtain ⟨u, hu⟩ : ∃ u, u = (usOf s.sp).getD i (0, 0) := ⟨_, rfl⟩
  rw [← hu] at hw ⊢
  have hc : ((cntAt (s.gone.take k) i : Nat) : Int) ≤ u.1 := by
    have := next_cnt h k hk i hi
    rw [hu, usOf_at h.sp.1 h.sp.2.1 i hi]
    exact this
  unfold leftOf
  split
  · exact .inl ⟨rfl, rfl⟩
  · simp only
    rcases hw with hw | hw
    · left
      rcases Nat.eq_zero_or_pos (cntAt (s.gone.take k) i) with h0 | h0
      · rw [h0]; simp [hw]
      · omega
    · right
      omega
/-- The store of which the first k pointers of Gone have been given back. -/
structure DropAt (s : St) (k : Nat) (t : St) : Prop where
  rows : t.rows.length = 64
  sp : t.sp = spOf (nextU (usOf s.sp) (s.gone.take k))
  ok : SpOk t.sp
  txg : t.txg = s.txg
  gone : t.gone = s.gone
  keep : t.keep = s.keep
  dead : t.dead = s.dead
  same : t.same = s.same
theorem drop_start : DropAt s 0 s := ⟨h.len, by rw [List.take_zero, nextU_nil, spOf_usOf (by rw [h.sp.1, h.sp.2.1])], h.sp, rfl, rfl, rfl, rfl, rfl⟩
theorem drop_step {k : Nat} {t : St} (hk : k < s.gone.length) (d : DropAt s k t) : ∃ n : Nat, (s.gone[k]).a = (n : Int) ∧ n < 64 ∧ (1 ≤ t.sp.refs.getD n 0 ∧ t.sp.refs.getD n 0 ≤ 900) ∧ DropAt s (k + 1) (dropSt t n) := by
  obtain ⟨⟨a0, a1⟩, b1, b2, _⟩ := next_step h k hk
  obtain ⟨n, hn⟩ : ∃ n : Nat, (s.gone[k]).a = (n : Int) := ⟨(s.gone[k]).a.toNat, by omega⟩
  have hn64 : n < 64 := by omega
  have hU : usOf t.sp = nextU (usOf s.sp) (s.gone.take k) := by rw [d.sp, usOf_spOf]
  rw [hn, useAt_nat, ← hU, usOf_at d.ok.1 d.ok.2.1 n hn64] at b1 b2
  have hw := d.ok.2.2 n hn64
  rw [usOf_at d.ok.1 d.ok.2.1 n hn64] at hw
  unfold rowOk at hw
  simp only at b1 b2 hw
  have hsp : (dropSt t n).sp = spOf (nextU (usOf s.sp) (s.gone.take (k + 1))) := by
    rw [drop_sp d.ok hn64, hU, List.take_succ_eq_append_getElem hk, nextU_snoc, hn]
  refine ⟨n, hn, hn64, by omega, ⟨by rw [drop_rows, d.rows], hsp, ?_, d.txg, d.gone, d.keep, d.dead, d.same⟩⟩
  rw [hsp]
  exact next_okT h (k + 1) hk
end
end Go.Proofs.Ytmnamclndpfjnaa
