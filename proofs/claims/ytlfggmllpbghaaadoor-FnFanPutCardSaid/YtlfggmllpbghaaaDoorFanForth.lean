/-
  What FanGet reads is what FanPut wrote; and what FanPut writes FanGet reads back.
-/
import Derived.Test.YtlfggmllpbghaaaDoorFanG
namespace Go.Proofs.YtlfggmllpbghaaaDoor
open Go.RowKit

theorem rd_text {q : ByteArray} (h : rdOk q = true) : (rdP q).ok = true ∧ (rdP q).text = q.data.toList := by
  have e : ptrG q = (rdP q, true) := by
    have h2 : (ptrG q).2 = true := h
    show ptrG q = ((ptrG q).1, true)
    rw [← h2]
  obtain ⟨⟨a, b, c, d, f⟩, hp⟩ : ∃ p, p = rdP q := ⟨_, rfl⟩
  rw [← hp] at e ⊢
  obtain ⟨h1, h2⟩ := put_get e
  refine ⟨h1, ?_⟩
  have h3 := congrArg (fun x : ByteArray => x.data.toList) h2
  simp only [strOf_toList] at h3
  exact h3
theorem joinP4 (a b c d : List UInt8) : joinP [a, b, c, d] = a ++ [b, c, d].flatMap (fun x => 44 :: x) := rfl

theorem fan_forth {s : ByteArray} {ps : List P5} (h : fanR s = (ps, true)) : ps.length = 4 ∧ fanG ps = (s, true) := by
  by_cases hc : (cutsB 44 s).length = 4 ∧ (∀ q ∈ cutsB 44 s, rdOk q = true) ∧ someP ((cutsB 44 s).map rdP) = true
  · obtain ⟨h4, hok, hs⟩ := hc
    rw [fanR_yes h4 hok hs] at h
    have hps : (cutsB 44 s).map rdP = ps := congrArg Prod.fst h
    subst hps
    have hl : ((cutsB 44 s).map rdP).length = 4 := by rw [List.length_map]; exact h4
    refine ⟨hl, ?_⟩
    rw [fanG_yes hl (by
      intro p hp
      obtain ⟨q, hq, rfl⟩ := List.mem_map.1 hp
      exact (rd_text (hok q hq)).1) hs]
    refine congrArg (fun x => (x, true)) ?_
    apply bytes_inj
    rw [strOf_toList]
    obtain ⟨xs, hxs⟩ : ∃ xs, xs = cuts 44 s.data.toList := ⟨_, rfl⟩
    have hB : cutsB 44 s = xs.map strOf := by rw [hxs]; rfl
    rw [hB] at h4 hok ⊢
    match xs, hxs, h4, hok with
    | [x0, x1, x2, x3], hxs, _, hok =>
      have f := cutA_flat 44 s.data.toList [] x0 [x1, x2, x3] hxs.symm
      have t0 := (rd_text (hok (strOf x0) (by simp))).2
      have t1 := (rd_text (hok (strOf x1) (by simp))).2
      have t2 := (rd_text (hok (strOf x2) (by simp))).2
      have t3 := (rd_text (hok (strOf x3) (by simp))).2
      rw [strOf_toList] at t0 t1 t2 t3
      rw [List.nil_append] at f
      unfold textOf
      simp only [List.map_cons, List.map_nil]
      rw [t0, t1, t2, t3, joinP4, f]
  · rw [fanR_no hc] at h
    have h2 : false = true := congrArg Prod.snd h
    exact absurd h2 (by decide)

end Go.Proofs.YtlfggmllpbghaaaDoor
