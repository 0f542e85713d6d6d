/-
  Space written out of a map.
-/
import Derived.Test.YtmnamclndpfjnaaNew
import Derived.Test.YtmnamclndpfjnaaIm
import Derived.BigRegion
namespace Go.Proofs.Ytmnamclndpfjnaa
open Go.RowKit

theorem uty : MTy Try.prog 88 3 113 := ⟨Try.underlying88, Try.underlying3, fun w => by kernel_rfl⟩

/-- The boxes and rows of a space that is being written out. -/
structure Laid (H g p q : Nat) : Prop where
  g0 : H < g
  p0 : H < p
  q0 : H < q
  gp : g ≠ p
  gq : g ≠ q
  pq : p ≠ q
def Out (H g p q : Nat) (U : Us) (W : World) : Prop :=
  B2 W H 25 (.slice none 0 0) (.slice none 0 0) ∧ B2 W g 25 (.slice (some ⟨p, 0, none⟩) 64 64) (.slice (some ⟨q, 0, none⟩) 64 64) ∧
  W.ownsRow (H + 1) 3 1 (.slice (some ⟨p, 0, none⟩) 64 64) 64 (intCells (spOf U).refs) ∧ W.ownsRow (H + 1) 3 1 (.slice (some ⟨q, 0, none⟩) 64 64) 64 (intCells (spOf U).last)
theorem Out.below {H g p q : Nat} {U : Us} {W W' : World} (h : Out H g p q U W) (hb : Below W.heap.size W W') : Out H g p q U W' :=
  ⟨h.1.below hb, h.2.1.below hb, own_bel h.2.2.1 hb, own_bel h.2.2.2 hb⟩
theorem Out.grown {H g p q r : Nat} {U : Us} {W W' : World} (h : Out H g p q U W) (hg : W.grownBy W' (some r)) (h1 : H ≠ r) (h2 : g ≠ r) (h3 : p ≠ r) (h4 : q ≠ r) : Out H g p q U W' :=
  ⟨h.1.grown hg (by simpa using h1), h.2.1.grown hg (by simpa using h2), h.2.2.1.kept hg (.inr (by simpa [Value.ownBlock] using h3)), h.2.2.2.kept hg (.inr (by simpa [Value.ownBlock] using h4))⟩

theorem own_at {W : World} {base p : Nat} (hb : base ≤ p) (h : W.heap[p]? = some (.cells z64 3 (0, 0))) : W.ownsRow base 3 1 (.slice (some ⟨p, 0, none⟩) 64 64) 64 (intCells (List.replicate 64 0)) := by
  have hs : z64.size = 64 := by simp [z64, intCells]
  refine ⟨by rw [intCells_len]; simp, .inr ⟨p, 64, z64, rfl, hb, h, Nat.le_refl _, by unfold maxLen; omega, by rw [hs], ?_⟩⟩
  have hz : z64.toList = intCells (List.replicate 64 0) := by simp [z64]
  rw [hz, List.take_of_length_le (by simp [intCells])]
theorem Out.mk {H g p q : Nat} {W : World} (hL : Laid H g p q) (h0 : W.heap[H]? = some (.cells #[.slice none 0 0, .slice none 0 0] 25 (0, 0))) (h1 : W.heap[g]? = some (.cells #[.slice (some ⟨p, 0, none⟩) 64 64, .slice (some ⟨q, 0, none⟩) 64 64] 25 (0, 0)))
    (h2 : W.heap[p]? = some (.cells z64 3 (0, 0))) (h3 : W.heap[q]? = some (.cells z64 3 (0, 0))) : Out H g p q zeroU W := by
  have e1 : (spOf zeroU).refs = List.replicate 64 0 := by rw [newS_of]; rfl
  have e2 : (spOf zeroU).last = List.replicate 64 0 := by rw [newS_of]; rfl
  refine ⟨h0, h1, ?_, ?_⟩
  · rw [e1]; exact own_at hL.p0 h2
  · rw [e2]; exact own_at hL.q0 h3

theorem grown_set (W : World) (a : Addr) (u : Value) : W.grownBy (W.setCell a u) (some a.block) :=
  ⟨rfl, rfl, rfl, by simp [World.setCell], fun k _ hk => Below.heap_setCell _ _ _ k (fun e => hk (by rw [e]))⟩
theorem Out.put {H g p q k : Nat} {L : Us} {W : World} (hL : Laid H g p q) (h : Out H g p q L W) (x y : Int) :
    Out H g p q (L.set k (x, y)) ((W.setCell ⟨p, k, none⟩ (.int .i64 x)).setCell ⟨q, k, none⟩ (.int .i64 y)) := by
  obtain ⟨h0, h1, h2, h3⟩ := h
  have a2 := (h2.stored k (.int .i64 x)).1
  have a3 := h3.kept (grown_set W ⟨p, k, none⟩ (.int .i64 x)) (.inr (by simpa [Value.ownBlock] using hL.pq.symm))
  have b3 := (a3.stored k (.int .i64 y)).1
  have b2 := a2.kept (grown_set (W.setCell ⟨p, k, none⟩ (.int .i64 x)) ⟨q, k, none⟩ (.int .i64 y)) (.inr (by simpa [Value.ownBlock] using hL.pq))
  rw [intCells_set] at b2 b3
  rw [Out, spOf_set]
  exact ⟨(h0.set (by have := hL.p0; show H ≠ p; omega) _).set (by have := hL.q0; show H ≠ q; omega) _, (h1.set hL.gp _).set hL.gq _, b2, b3⟩
theorem own_old {w : World} {base p : Nat} {xs : List Int} (h : w.ownsRow base 3 1 (.slice (some ⟨p, 0, none⟩) 64 64) 64 (intCells xs)) {k : Nat} (hk : k < 64) : ∃ v, w.cell? ⟨p, k, none⟩ = some v ∧ w.frozen? ⟨p, k, none⟩ = false := by
  have hl := h.1
  refine ⟨(intCells xs)[k]'(by omega), ?_, h.frozenAt k⟩
  rw [h.cellAt k (by omega)]
  exact List.getElem?_eq_getElem _

theorem heap4 (W : World) (o1 o2 o3 o4 : Obj) : ((((W.alloc o1).alloc o2).alloc o3).alloc o4).drew.heap[W.heap.size]? = some o1 ∧ ((((W.alloc o1).alloc o2).alloc o3).alloc o4).drew.heap[W.heap.size + 1]? = some o2 ∧
    ((((W.alloc o1).alloc o2).alloc o3).alloc o4).drew.heap[W.heap.size + 1 + 1]? = some o3 ∧ ((((W.alloc o1).alloc o2).alloc o3).alloc o4).drew.heap[W.heap.size + 1 + 1 + 1]? = some o4 := by
  show ((((W.alloc o1).alloc o2).alloc o3).alloc o4).heap[W.heap.size]? = some o1 ∧ ((((W.alloc o1).alloc o2).alloc o3).alloc o4).heap[W.heap.size + 1]? = some o2 ∧
    ((((W.alloc o1).alloc o2).alloc o3).alloc o4).heap[W.heap.size + 1 + 1]? = some o3 ∧ ((((W.alloc o1).alloc o2).alloc o3).alloc o4).heap[W.heap.size + 1 + 1 + 1]? = some o4
  have e1 := heap_alloc_new W o1
  have e2 := heap_alloc_new (W.alloc o1) o2
  have e3 := heap_alloc_new ((W.alloc o1).alloc o2) o3
  have e4 := heap_alloc_new (((W.alloc o1).alloc o2).alloc o3) o4
  simp only [World.size_alloc] at e1 e2 e3 e4
  refine ⟨?_, ?_, ?_, e4⟩
  · rw [Below.heap_alloc _ _ _ (by simp only [World.size_alloc]; omega), Below.heap_alloc _ _ _ (by simp only [World.size_alloc]; omega), Below.heap_alloc _ _ _ (by simp only [World.size_alloc]; omega), e1]
  · rw [Below.heap_alloc _ _ _ (by simp only [World.size_alloc]; omega), Below.heap_alloc _ _ _ (by simp only [World.size_alloc]; omega), e2]
  · rw [Below.heap_alloc _ _ _ (by simp only [World.size_alloc]; omega), e3]

set_option maxRecDepth 100000 in
set_option maxHeartbeats 4000000 in
theorem impl_space (b : Nat) (U : Us) (w : World) (hU : UMap w Try.prog 3 b U) : Calls Try.prog 78 #[.map (some b)] w (SPost (spOf U) w) := by
  have hmk := make64
  obtain ⟨Z, hZ⟩ : ∃ Z, Z = z64 := ⟨_, rfl⟩
  rw [← hZ] at hmk
  have HZ := Lib.hid hZ
  clear hZ
  go_enter Try.func78, Try.ntmps78
  go_upto_region 2 with fail
  go_cut [3] (fun s wx => ∃ g p q, s = .pointer (some ⟨g, 0, none⟩) ∧ Laid w.heap.size g p q ∧ Out w.heap.size g p q zeroU wx ∧ Below w.heap.size w wx)
  case first =>
    go_wp2
    go_region
    all_goals go_wp2_with fail
    all_goals go_meet
    all_goals obtain rfl := HZ.out
    all_goals first
      | exact ⟨_, w.heap.size + 1, w.heap.size + 1 + 1, rfl, ⟨by omega, by omega, by omega, by omega, by omega, by omega⟩, Out.mk ⟨by omega, by omega, by omega, by omega, by omega, by omega⟩ (heap4 w _ _ _ _).1 (heap4 w _ _ _ _).2.2.2 (heap4 w _ _ _ _).2.1 (heap4 w _ _ _ _).2.2.1, (bel_new (bel_new (bel_new (bel_new (Below.refl _ _) _) _) _) _).drew⟩
      | exact ⟨_, w.heap.size + 1, w.heap.size + 1 + 1 + 1, rfl, ⟨by omega, by omega, by omega, by omega, by omega, by omega⟩, Out.mk ⟨by omega, by omega, by omega, by omega, by omega, by omega⟩ (heap4 w _ _ _ _).1 (heap4 w _ _ _ _).2.2.1 (heap4 w _ _ _ _).2.1 (heap4 w _ _ _ _).2.2.2, (bel_new (bel_new (bel_new (bel_new (Below.refl _ _) _) _) _) _).drew⟩
      | exact ⟨_, w.heap.size + 1 + 1, w.heap.size + 1, rfl, ⟨by omega, by omega, by omega, by omega, by omega, by omega⟩, Out.mk ⟨by omega, by omega, by omega, by omega, by omega, by omega⟩ (heap4 w _ _ _ _).1 (heap4 w _ _ _ _).2.2.2 (heap4 w _ _ _ _).2.2.1 (heap4 w _ _ _ _).2.1, (bel_new (bel_new (bel_new (bel_new (Below.refl _ _) _) _) _) _).drew⟩
      | exact ⟨_, w.heap.size + 1 + 1, w.heap.size + 1 + 1 + 1, rfl, ⟨by omega, by omega, by omega, by omega, by omega, by omega⟩, Out.mk ⟨by omega, by omega, by omega, by omega, by omega, by omega⟩ (heap4 w _ _ _ _).1 (heap4 w _ _ _ _).2.1 (heap4 w _ _ _ _).2.2.1 (heap4 w _ _ _ _).2.2.2, (bel_new (bel_new (bel_new (bel_new (Below.refl _ _) _) _) _) _).drew⟩
      | exact ⟨_, w.heap.size + 1 + 1 + 1, w.heap.size + 1, rfl, ⟨by omega, by omega, by omega, by omega, by omega, by omega⟩, Out.mk ⟨by omega, by omega, by omega, by omega, by omega, by omega⟩ (heap4 w _ _ _ _).1 (heap4 w _ _ _ _).2.2.1 (heap4 w _ _ _ _).2.2.2 (heap4 w _ _ _ _).2.1, (bel_new (bel_new (bel_new (bel_new (Below.refl _ _) _) _) _) _).drew⟩
      | exact ⟨_, w.heap.size + 1 + 1 + 1, w.heap.size + 1 + 1, rfl, ⟨by omega, by omega, by omega, by omega, by omega, by omega⟩, Out.mk ⟨by omega, by omega, by omega, by omega, by omega, by omega⟩ (heap4 w _ _ _ _).1 (heap4 w _ _ _ _).2.1 (heap4 w _ _ _ _).2.2.2 (heap4 w _ _ _ _).2.2.1, (bel_new (bel_new (bel_new (bel_new (Below.refl _ _) _) _) _) _).drew⟩
  case rest =>
    obtain ⟨g, p, q, rfl, hL, hO, hB⟩ := hcut
    obtain ⟨w1, e1, hO, hB⟩ : ∃ W, W = _ ∧ Out w.heap.size g p q zeroU W ∧ Below w.heap.size w W := ⟨_, rfl, hO, hB⟩
    subst e1
    have hb := hU.lt
    have hU1 := hU.below hB
    have hp := hO.2.2.1.lt p rfl
    have hq := hO.2.2.2.lt q rfl
    have hgl := hO.2.1.lt
    clear hU hmk
    go_wp2_with (at_range; refine wpList_urange _ uty rfl _ rfl rfl hU1 ?_; intro w2 hR hg2 hs2)
    go_frame
    have hO := hO.below (Below.refl _ _ |>.grown hg2 (Nat.le_refl _) (fun k e => by cases e))
    have hB := hB.grown hg2 hB.size (fun k e => by cases e)
    clear hU1
    go_loopw [4] (fun _ wr => ∃ L, URange wr Try.prog 3 b w1.heap.size U L ∧ Out w.heap.size g p q L wr ∧ Below w.heap.size w wr) (fun _ wr => wr.rangeLeft b w1.heap.size)
    case atStart => exact ⟨_, hR, hO, hB⟩
    case round =>
      clear hR hO hB
      obtain ⟨L, hR, hO, hB⟩ := hrel
      go_wp2_with (at_next; refine wpList_unext _ uty rfl _ rfl rfl hR ?_ ?_)
      · intro hLU
        obtain ⟨⟨y0, y1⟩, f0, f1⟩ := hO.1.cells
        obtain ⟨⟨z0, z1⟩, k0, k1⟩ := hO.2.1.cells
        go_wp2_with fail
        subst hLU
        have hO2 : SpOwn wr (w.heap.size + 1) (.agg #[.slice (some ⟨p, 0, none⟩) 64 64, .slice (some ⟨q, 0, none⟩) 64 64]) (spOf L) := by
          have e1 : (spOf L).refs.length = 64 := by simp [spOf, hR.len]
          have e2 : (spOf L).last.length = 64 := by simp [spOf, hR.len]
          refine ⟨_, _, rfl, by rw [e1]; exact hO.2.2.1, by rw [e2]; exact hO.2.2.2, fun k e3 e4 => ?_⟩
          simp only [Value.ownBlock, Option.some.injEq] at e3 e4
          exact hL.pq (by omega)
        refine bodyPost_ret (v := .agg #[.slice (some ⟨p, 0, none⟩) 64 64, .slice (some ⟨q, 0, none⟩) 64 64]) (by simp [results, Try.f78, go_sem, y0, y1]) rfl (SPost.mk (by simp [spOf, hR.len]) (by simp [spOf, hR.len]) (((hO2.set (p := ⟨w.heap.size, 0, none⟩) (Nat.lt_succ_self _) _).set (p := ⟨w.heap.size, 1, none⟩) (Nat.lt_succ_self _) _).base (Nat.le_succ _)) ((hB.setCell (p := ⟨w.heap.size, 0, none⟩) (Nat.le_refl _) _).setCell (p := ⟨w.heap.size, 1, none⟩) (Nat.le_refl _) _))
      · intro n x y w3 n0 n1 hxy hne hR3 hlt hg3 hs3 hen
        obtain ⟨k, rfl⟩ : ∃ k : Nat, n = (k : Int) := ⟨n.toNat, by omega⟩
        rw [Int.toNat_natCast] at hR3
        have hk : k < 64 := by omega
        have hO3 := hO.grown hg3 (by omega) (by omega) (by omega) (by omega)
        have hB3 := hB.grown hg3 hB.size (fun k e => by cases e; omega)
        have ha := (Below.refl w3.heap.size w3).alloc (Nat.le_refl _) (.cells #[.int .i64 x, .int .i64 y] 113)
        have hOb := hO3.below ha
        have hRb := hR3.grown (World.grownBy_alloc w3 (.cells #[.int .i64 x, .int .i64 y] 113) none) (by simp) (by simp)
        have hl3 := hR3.left_kept (World.grownBy_alloc w3 (.cells #[.int .i64 x, .int .i64 y] 113) none) (by simp) (by simp)
        obtain ⟨⟨z0, z1⟩, k0, k1⟩ := hOb.2.1.cells
        obtain ⟨v1, c1, d1⟩ := own_old hOb.2.2.1 hk
        obtain ⟨v2, c2, d2⟩ := own_old (hOb.2.2.2.kept (grown_set _ ⟨p, k, none⟩ (.int .i64 x)) (.inr (by simpa [Value.ownBlock] using hL.pq.symm))) hk
        have hpr := (hO3.2.2.1.lt p rfl).2
        have hne3 : w3.heap.size ≠ p := by omega
        have bB := B2.new w3 113 (.int .i64 x) (.int .i64 y)
        obtain ⟨⟨m0, m1⟩, _, _⟩ := bB.cells
        obtain ⟨⟨m2, m3⟩, _, _⟩ := (bB.set (p := ⟨p, k, none⟩) hne3 (.int .i64 x)).cells
        obtain ⟨⟨m4, m5⟩, _, _⟩ := (hOb.2.1.set (p := ⟨p, k, none⟩) hL.gp (.int .i64 x)).cells
        have hOut := Out.put (k := k) hL hOb x y
        have hBe := ((bel_then hB3 ha).setCell (p := ⟨p, k, none⟩) (by show w.heap.size ≤ p; omega) (.int .i64 x)).setCell (p := ⟨q, k, none⟩) (by show w.heap.size ≤ q; omega) (.int .i64 y)
        have hRe := (hRb.grown (grown_set _ ⟨p, k, none⟩ (.int .i64 x)) (by simp; omega) (by simp; omega)).grown (grown_set _ ⟨q, k, none⟩ (.int .i64 y)) (by simp; omega) (by simp; omega)
        have hle : World.rangeLeft (((w3.alloc (.cells #[.int .i64 x, .int .i64 y] 113)).setCell ⟨p, k, none⟩ (.int .i64 x)).setCell ⟨q, k, none⟩ (.int .i64 y)) b w1.heap.size < wr.rangeLeft b w1.heap.size := by
          rw [(hRb.grown (grown_set _ ⟨p, k, none⟩ (.int .i64 x)) (by simp; omega) (by simp; omega)).left_kept (grown_set _ ⟨q, k, none⟩ (.int .i64 y)) (by simp; omega) (by simp; omega),
            hRb.left_kept (grown_set _ ⟨p, k, none⟩ (.int .i64 x)) (by simp; omega) (by simp; omega), hl3]
          exact hlt
        have HF := Lib.hid (And.intro hRe (And.intro hOut (And.intro hBe hle)))
        clear hOut hBe hRe hle hl3 hRb hOb hO3 hB3 hR hO hB hR3 hlt hg3 hs3 hpr
        go_wp2_with fail
        go_region
        go_wp2_with fail
        go_roundw
        case rel => exact ⟨_, HF.out.1, HF.out.2.1, HF.out.2.2.1.drew⟩
        case measure => exact HF.out.2.2.2
end Go.Proofs.Ytmnamclndpfjnaa
