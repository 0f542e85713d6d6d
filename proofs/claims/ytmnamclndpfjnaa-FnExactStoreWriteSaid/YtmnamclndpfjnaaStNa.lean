/-
  What a new store is made of.
-/
import Derived.Test.YtmnamclndpfjnaaStT
import Derived.Test.YtmnamclndpfjnaaImA
namespace Go.Proofs.Ytmnamclndpfjnaa
open Go.RowKit

def zS : Array Value := (strCells (List.replicate 64 b0)).toArray
theorem makeS (w : World) : (Instr.makeSlice 22 (.int .i64 64) (.int .i64 64)).run Try.prog w = .ok (.slice (some ⟨w.heap.size, 0, none⟩) 64 64) (w.alloc (.cells zS 9)) := by kernel_rfl
theorem hal {W : World} {o : Obj} {p : Nat} {v : Obj} (h : W.heap[p]? = some v) : (W.alloc o).heap[p]? = some v := (Below.heap_alloc W o p (Array.getElem?_eq_some_iff.1 h).1).trans h
theorem hnw {W : World} {o : Obj} {p : Nat} (h : p = W.heap.size) : (W.alloc o).heap[p]? = some o := by subst h; exact heap_alloc_new W o
theorem putS_heap {W : World} {H p : Nat} {x : SA} {s : St} {v : Obj} (hp : p ≠ H) (h : W.heap[p]? = some v) : (putS W H x s).heap[p]? = some v := by
  have hs : ∀ (W : World) (i : Nat) (u : Value), W.heap[p]? = some v → (W.setCell ⟨H, i, none⟩ u).heap[p]? = some v := fun W i u h => (Below.heap_setCell W ⟨H, i, none⟩ u p hp).trans h
  exact hs _ _ _ (hs _ _ _ (hs _ _ _ (hs _ _ _ (hs _ _ _ (hs _ _ _ (hs _ _ _ (hs _ _ _ h)))))))
theorem Own.alloc {w : World} {base top : Nat} {L : List Rw} (h : Own w base top L) (o : Obj) : Own (w.alloc o) base top L := h.below ((Below.refl _ _).alloc (Nat.le_refl _) o)
theorem putS_ownL {W : World} {H base top : Nat} {x : SA} {s : St} {L : List Rw} (h : Own W base top L) (hH : H < base) : Own (putS W H x s) base top L :=
  (((((((h.set hH _).set hH _).set hH _).set hH _).set hH _).set hH _).set hH _).set hH _
/-- A block of its own is a row of its own. -/
theorem blk_own {W : World} {p n sz : Nat} {cs : Array Value} {t : TypeId} (h : W.heap[p]? = some (.cells cs t (0, 0))) (hs : cs.size = n * sz) (hn : n ≤ maxLen) : Own W p (p + 1) [⟨t, sz, n, .slice (some ⟨p, 0, none⟩) n n, cs.toList⟩] := by
  refine ⟨fun r hr => ?_, List.pairwise_singleton _ _⟩
  rw [List.mem_singleton] at hr
  subst hr
  refine ⟨⟨by simpa using hs, .inr ⟨p, n, cs, rfl, Nat.le_refl _, h, Nat.le_refl _, hn, by rw [hs], ?_⟩⟩, fun k hk => by simp only [Value.ownBlock, Option.some.injEq] at hk; omega⟩
  rw [List.take_of_length_le (by rw [Array.length_toList, hs]; exact Nat.le_refl _)]
def apartI (a b c d : Nat) : Prop := b ≤ c ∨ d ≤ a
theorem Own.beside {w : World} {a b c d base top : Nat} {L M : List Rw} (h : Own w a b L) (g : Own w c d M) (hi : b ≤ c ∨ d ≤ a) (h1 : base ≤ a) (h2 : base ≤ c) (h3 : b ≤ top) (h4 : d ≤ top) : Own w base top (L ++ M) := by
  refine ⟨fun r hr => ?_, List.pairwise_append.2 ⟨h.2, g.2, fun r hr s hs k k1 k2 => ?_⟩⟩
  · rcases List.mem_append.1 hr with hr | hr
    · exact ⟨own_base (h.1 r hr).1 h1, fun k hk => Nat.lt_of_lt_of_le ((h.1 r hr).2 k hk) h3⟩
    · exact ⟨own_base (g.1 r hr).1 h2, fun k hk => Nat.lt_of_lt_of_le ((g.1 r hr).2 k hk) h4⟩
  · have a1 := (h.1 r hr).2 k k1
    have a2 := ((h.1 r hr).1.lt k k1).1
    have a3 := ((g.1 s hs).1.lt k k2).1
    have a4 := (g.1 s hs).2 k k2
    omega
theorem Own.join3 {w : World} {a b c d e f base top : Nat} {L M N : List Rw} (h : Own w a b L) (g : Own w c d M) (k : Own w e f N) (h1 : b ≤ c ∨ d ≤ a) (h2 : b ≤ e ∨ f ≤ a) (h3 : d ≤ e ∨ f ≤ c) (ha : base ≤ a) (hc : base ≤ c) (he : base ≤ e) (hb : b ≤ top) (hd : d ≤ top) (hf : f ≤ top) : Own w base top (L ++ (M ++ N)) := by
  have gk := g.beside k h3 hc he hd hf
  refine ⟨fun r hr => ?_, List.pairwise_append.2 ⟨h.2, gk.2, fun r hr s hs q q1 q2 => ?_⟩⟩
  · rcases List.mem_append.1 hr with hr | hr
    · exact ⟨own_base (h.1 r hr).1 ha, fun q hq => Nat.lt_of_lt_of_le ((h.1 r hr).2 q hq) hb⟩
    · exact gk.1 r hr
  · have a1 := (h.1 r hr).2 q q1
    have a2 := ((h.1 r hr).1.lt q q1).1
    rcases List.mem_append.1 hs with hs | hs
    · have a3 := ((g.1 s hs).1.lt q q2).1
      have a4 := (g.1 s hs).2 q q2
      omega
    · have a3 := ((k.1 s hs).1.lt q q2).1
      have a4 := (k.1 s hs).2 q q2
      omega
theorem own_new5 {W : World} {base top p sb st g d : Nat} {x : SA} {s : St} (h1 : Own W p (p + 1) [⟨9, 1, s.rows.length, .slice x.A s.rows.length x.a, strCells s.rows⟩])
    (h2 : Own W sb st [⟨3, 1, s.sp.refs.length, .slice x.R s.sp.refs.length x.r, intCells s.sp.refs⟩, ⟨3, 1, s.sp.last.length, .slice x.L s.sp.last.length x.l, intCells s.sp.last⟩])
    (h3 : Own W g (g + 1) [⟨45, 5, s.gone.length, .slice x.G s.gone.length x.g, flat s.gone⟩]) (h4 : Own W d (d + 1) [⟨45, 5, s.dead.length, .slice x.D s.dead.length x.d, flat s.dead⟩])
    (k : p ≠ g ∧ p ≠ d ∧ g ≠ d ∧ (p + 1 ≤ sb ∨ st ≤ p) ∧ (g + 1 ≤ sb ∨ st ≤ g) ∧ (d + 1 ≤ sb ∨ st ≤ d) ∧ base ≤ p ∧ base ≤ sb ∧ base ≤ g ∧ base ≤ d ∧ p < top ∧ st ≤ top ∧ g < top ∧ d < top) : Own W base top (rows5 x s) := by
  obtain ⟨k1, k2, k3, k4, k5, k6, k7, k8, k9, k10, k11, k12, k13, k14⟩ := k
  have P := h2.join3 h3 h4 (base := base) (top := top) (by omega) (by omega) (by omega) k8 k9 k10 k12 (by omega) (by omega)
  have P0 := h1.beside h2 (base := base) (top := top) (by omega) k7 k8 (by omega) k12
  have P1 := h1.beside h3 (base := base) (top := top) (by omega) k7 k9 (by omega) (by omega)
  have P2 := h1.beside h4 (base := base) (top := top) (by omega) k7 k10 (by omega) (by omega)
  refine ⟨fun r hr => ?_, List.Pairwise.cons (fun r hr => ?_) P.2⟩
  · rcases List.mem_cons.1 hr with rfl | hr
    · exact P1.1 _ (by simp)
    · exact P.1 _ hr
  · simp only [List.mem_cons, List.not_mem_nil, or_false] at hr
    have q0 := List.pairwise_cons.1 P0.2
    have q1 := List.pairwise_cons.1 P1.2
    have q2 := List.pairwise_cons.1 P2.2
    rcases hr with rfl | rfl | rfl | rfl
    · exact q0.1 _ (by simp)
    · exact q0.1 _ (by simp)
    · exact q1.1 _ (by simp)
    · exact q2.1 _ (by simp)

section
variable {W w : World} {H base top B g : Nat} {t : TypeId} {v0 v1 v2 v3 v4 v5 v6 v7 u0 u1 u2 u3 u4 u5 u6 u7 : Value} {L : List Rw}
theorem set8_box (h : B8 W H t v0 v1 v2 v3 v4 v5 v6 v7) : B8 ((((((((W.setCell ⟨H, 0, none⟩ u0).setCell ⟨H, 1, none⟩ u1).setCell ⟨H, 2, none⟩ u2).setCell ⟨H, 3, none⟩ u3).setCell ⟨H, 4, none⟩ u4).setCell ⟨H, 5, none⟩ u5).setCell ⟨H, 6, none⟩ u6).setCell ⟨H, 7, none⟩ u7) H t u0 u1 u2 u3 u4 u5 u6 u7 := (((((((h.put0 _).put1 _).put2 _).put3 _).put4 _).put5 _).put6 _).put7 _
theorem set8_own (h : Own W base top L) (hH : H < base) : Own ((((((((W.setCell ⟨H, 0, none⟩ u0).setCell ⟨H, 1, none⟩ u1).setCell ⟨H, 2, none⟩ u2).setCell ⟨H, 3, none⟩ u3).setCell ⟨H, 4, none⟩ u4).setCell ⟨H, 5, none⟩ u5).setCell ⟨H, 6, none⟩ u6).setCell ⟨H, 7, none⟩ u7) base top L := (((((((h.set hH _).set hH _).set hH _).set hH _).set hH _).set hH _).set hH _).set hH _
theorem set8_bel (h : Below B w W) (hH : B ≤ H) : Below B w ((((((((W.setCell ⟨H, 0, none⟩ u0).setCell ⟨H, 1, none⟩ u1).setCell ⟨H, 2, none⟩ u2).setCell ⟨H, 3, none⟩ u3).setCell ⟨H, 4, none⟩ u4).setCell ⟨H, 5, none⟩ u5).setCell ⟨H, 6, none⟩ u6).setCell ⟨H, 7, none⟩ u7) := (((((((h.setCell hH _).setCell hH _).setCell hH _).setCell hH _).setCell hH _).setCell hH _).setCell hH _).setCell hH _
theorem set8_heap {p : Nat} {v : Obj} (hp : p ≠ H) (h : W.heap[p]? = some v) : ((((((((W.setCell ⟨H, 0, none⟩ u0).setCell ⟨H, 1, none⟩ u1).setCell ⟨H, 2, none⟩ u2).setCell ⟨H, 3, none⟩ u3).setCell ⟨H, 4, none⟩ u4).setCell ⟨H, 5, none⟩ u5).setCell ⟨H, 6, none⟩ u6).setCell ⟨H, 7, none⟩ u7).heap[p]? = some v := by
  have hs : ∀ (W : World) (i : Nat) (u : Value), W.heap[p]? = some v → (W.setCell ⟨H, i, none⟩ u).heap[p]? = some v := fun W i u h => (Below.heap_setCell W ⟨H, i, none⟩ u p hp).trans h
  exact hs _ _ _ (hs _ _ _ (hs _ _ _ (hs _ _ _ (hs _ _ _ (hs _ _ _ (hs _ _ _ (hs _ _ _ h)))))))
end

set_option maxHeartbeats 2000000 in
theorem snew_end {b : Bool} {w WF : World} {A B : Option Addr} {c e p g d sb st : Nat} {t8 : Value}
    (h1 : B8 WF w.heap.size 28 (.slice (some ⟨p, 0, none⟩) 64 64) (.slice A newS.refs.length c) (.slice B newS.last.length e) (.int .i64 1) (.slice (some ⟨g, 0, none⟩) 0 0) (.int .i64 0) (.slice (some ⟨d, 0, none⟩) 0 0) (.bool b))
    (h2 : Own WF sb st [⟨3, 1, newS.refs.length, .slice A newS.refs.length c, intCells newS.refs⟩, ⟨3, 1, newS.last.length, .slice B newS.last.length e, intCells newS.last⟩])
    (hbel : Below w.heap.size w WF) (hp : WF.heap[p]? = some (.cells zS 9 (0, 0))) (hg : WF.heap[g]? = some (.cells #[] 45 (0, 0))) (hd : WF.heap[d]? = some (.cells #[] 45 (0, 0)))
    (k : p ≠ g ∧ p ≠ d ∧ g ≠ d ∧ (p + 1 ≤ sb ∨ st ≤ p) ∧ (g + 1 ≤ sb ∨ st ≤ g) ∧ (d + 1 ≤ sb ∨ st ≤ d) ∧ w.heap.size ≤ p ∧ w.heap.size ≤ sb ∧ w.heap.size ≤ g ∧ w.heap.size ≤ d ∧ p < WF.heap.size ∧ st ≤ WF.heap.size ∧ g < WF.heap.size ∧ d < WF.heap.size) :
    bodyPost Try.prog Try.f11 (TPost (newSt b) w) Exit.ret { tmps := #[.bool b, undef, .pointer (some ⟨w.heap.size, 0, none⟩), .slice (some ⟨p, 0, none⟩) 64 64, .agg #[.slice A newS.refs.length c, .slice B newS.last.length e], .slice (some ⟨g, 0, none⟩) 0 0, .slice (some ⟨d, 0, none⟩) 0 0, .bool b, t8], defers := [] } WF := by
  obtain ⟨q0, q1, q2, q3, q4, q5, q6, q7⟩ := h1.cells
  have hz : zS.size = 64 * 1 := by simp [zS, strCells]
  have o1 := blk_own hp hz (by unfold maxLen; omega)
  have o3 := blk_own (n := 0) (sz := 5) hg rfl (by unfold maxLen; omega)
  have o4 := blk_own (n := 0) (sz := 5) hd rfl (by unfold maxLen; omega)
  rw [show zS.toList = strCells (List.replicate 64 b0) by simp [zS]] at o1
  have OW := own_new5 (x := ⟨some ⟨p, 0, none⟩, 64, A, c, B, e, some ⟨g, 0, none⟩, 0, some ⟨d, 0, none⟩, 0⟩) (s := newSt b) o1 h2 o3 o4 k
  exact bodyPost_ret (v := .agg #[.slice (some ⟨p, 0, none⟩) 64 64, .slice A newS.refs.length c, .slice B newS.last.length e, .int .i64 1, .slice (some ⟨g, 0, none⟩) 0 0, .int .i64 0, .slice (some ⟨d, 0, none⟩) 0 0, .bool b]) (by simp [results, Try.f11, go_sem, q0, q1, q2, q3, q4, q5, q6, q7]) rfl ⟨⟨some ⟨p, 0, none⟩, 64, A, c, B, e, some ⟨g, 0, none⟩, 0, some ⟨d, 0, none⟩, 0⟩, rfl, OW, hbel⟩

theorem sb_of {w : World} {lo hi : Nat} {L : List Rw} (h : Own w lo hi L) : ∃ sb, sb = lo ∧ Own w sb hi L := ⟨_, rfl, h⟩
theorem hdr {W : World} {p : Nat} {v : Obj} (h : W.heap[p]? = some v) : W.drew.heap[p]? = some v := h
theorem own_nil2 (w : World) (base top : Nat) : Own w base top [⟨45, 5, 0, .slice none 0 0, flat []⟩, ⟨45, 5, 0, .slice none 0 0, flat []⟩] := by
  refine ⟨fun r hr => ?_, ?_⟩
  · simp only [List.mem_cons, List.not_mem_nil, or_false] at hr
    rcases hr with rfl | rfl <;> exact ⟨⟨rfl, .inl ⟨rfl, rfl⟩⟩, fun k hk => by cases hk⟩
  · refine List.pairwise_iff_getElem.2 fun i j hi hj hij k hk => ?_
    have : ∀ r ∈ ([⟨45, 5, 0, .slice none 0 0, flat []⟩, ⟨45, 5, 0, .slice none 0 0, flat []⟩] : List Rw), r.v.ownBlock = .none := by
      intro r hr
      simp only [List.mem_cons, List.not_mem_nil, or_false] at hr
      rcases hr with rfl | rfl <;> rfl
    rw [this _ (List.getElem_mem hi)] at hk
    cases hk

set_option maxHeartbeats 2000000 in
theorem snew_end2 {b : Bool} {w WF : World} {A B : Option Addr} {c e p sb st : Nat} {t6 : Value}
    (h1 : B8 WF w.heap.size 28 (.slice (some ⟨p, 0, none⟩) 64 64) (.slice A newS.refs.length c) (.slice B newS.last.length e) (.int .i64 1) (.slice none 0 0) (.int .i64 0) (.slice none 0 0) (.bool b))
    (h2 : Own WF sb st [⟨3, 1, newS.refs.length, .slice A newS.refs.length c, intCells newS.refs⟩, ⟨3, 1, newS.last.length, .slice B newS.last.length e, intCells newS.last⟩])
    (hbel : Below w.heap.size w WF) (hp : WF.heap[p]? = some (.cells zS 9 (0, 0)))
    (k : (p + 1 ≤ sb ∨ st ≤ p) ∧ w.heap.size ≤ p ∧ w.heap.size ≤ sb ∧ p < WF.heap.size ∧ st ≤ WF.heap.size) :
    bodyPost Try.prog Try.f12 (TPost (newSt b) w) Exit.ret { tmps := #[.bool b, undef, .pointer (some ⟨w.heap.size, 0, none⟩), .slice (some ⟨p, 0, none⟩) 64 64, .agg #[.slice A newS.refs.length c, .slice B newS.last.length e], .bool b, t6], defers := [] } WF := by
  obtain ⟨q0, q1, q2, q3, q4, q5, q6, q7⟩ := h1.cells
  obtain ⟨k1, k2, k3, k4, k5⟩ := k
  have hz : zS.size = 64 * 1 := by simp [zS, strCells]
  have o1 := blk_own hp hz (by unfold maxLen; omega)
  rw [show zS.toList = strCells (List.replicate 64 b0) by simp [zS]] at o1
  have OW := o1.join3 h2 (own_nil2 WF WF.heap.size WF.heap.size) (base := w.heap.size) (top := WF.heap.size) k1 (.inl k4) (.inl k5) k2 k3 (Nat.le_trans k2 (Nat.le_of_lt k4)) k4 k5 (Nat.le_refl _)
  exact bodyPost_ret (v := .agg #[.slice (some ⟨p, 0, none⟩) 64 64, .slice A newS.refs.length c, .slice B newS.last.length e, .int .i64 1, .slice none 0 0, .int .i64 0, .slice none 0 0, .bool b]) (by simp [results, Try.f12, go_sem, q0, q1, q2, q3, q4, q5, q6, q7]) rfl ⟨⟨some ⟨p, 0, none⟩, 64, A, c, B, e, none, 0, none, 0⟩, rfl, OW, hbel⟩
end Go.Proofs.Ytmnamclndpfjnaa
