/-
  New space, and space written out of a map.
  Space written out of a map.
  What is used of the rows of a space, read into a map.
  The program's new space, its validity, its room, one reference more, one less.
  Whether a store is valid, as the program asks it.
  Whether the rows of a store have texts just where they are used.
  StoreOk, the program's.
  The model's word on whether space is valid.
  StoreOk, the reference's.
-/
import Derived.Test.YtjmfefaoenmppaaGreatDoorKB
import Derived.Test.YtjmfefaoenmppaaGreatDoorKD
import Derived.Deep.RegionLaw
import Derived.BigRegion
set_option linter.unusedVariables false

namespace Go.Proofs.YtjmfefaoenmppaaGreatDoor
open Go.RowKit

def z64 : Array Value := (intCells (List.replicate 64 0)).toArray
theorem make64 (w : World) : (Instr.makeSlice 23 (.int .i64 64) (.int .i64 64)).run Tryz.prog w = .ok (.slice (some ⟨w.heap.size, 0, none⟩) 64 64) (w.alloc (.cells z64 3)) := by kernel_rfl
theorem own_z64 (w : World) : (w.alloc (.cells z64 3)).ownsRow w.heap.size 3 1 (.slice (some ⟨w.heap.size, 0, none⟩) 64 64) 64 (intCells (List.replicate 64 0)) := by
  have hs : z64.size = 64 := by simp [z64, intCells]
  refine ⟨by rw [intCells_len]; simp, .inr ⟨w.heap.size, 64, z64, rfl, Nat.le_refl _, heap_alloc_new w _, Nat.le_refl _, by unfold maxLen; omega, by rw [hs], ?_⟩⟩
  have hz : z64.toList = intCells (List.replicate 64 0) := by simp [z64]
  rw [hz, List.take_of_length_le (by simp [intCells])]

theorem z_own (W : World) : SpOwn ((W.alloc (.cells z64 3)).alloc (.cells z64 3)) W.heap.size (.agg #[.slice (some ⟨W.heap.size, 0, none⟩) 64 64, .slice (some ⟨W.heap.size + 1, 0, none⟩) 64 64]) newS ∧
    SpOwn ((W.alloc (.cells z64 3)).alloc (.cells z64 3)) W.heap.size (.agg #[.slice (some ⟨W.heap.size + 1, 0, none⟩) 64 64, .slice (some ⟨W.heap.size, 0, none⟩) 64 64]) newS := by
  have h1 := (own_z64 W).alloc (.cells z64 3)
  have h2 := own_z64 (W.alloc (.cells z64 3))
  rw [World.size_alloc] at h2
  have h2 := own_base h2 (Nat.le_succ W.heap.size)
  constructor
  · refine ⟨_, _, rfl, h1, h2, fun k e1 e2 => ?_⟩
    simp only [Value.ownBlock, Option.some.injEq] at e1 e2
    omega
  · refine ⟨_, _, rfl, h2, h1, fun k e1 e2 => ?_⟩
    simp only [Value.ownBlock, Option.some.injEq] at e1 e2
    omega
theorem SPost.mk {s : Sp} {w w' : World} {A B : Option Addr} {c e n m : Nat} (hn : n = s.refs.length) (hm : m = s.last.length) (h1 : SpOwn w' w.heap.size (.agg #[.slice A n c, .slice B m e]) s) (h2 : Below w.heap.size w w') : SPost s w (.returned (.agg #[.slice A n c, .slice B m e])) w' := by
  subst hn hm
  exact ⟨A, c, B, e, rfl, h1, h2⟩
theorem SpOwn.drew {W : World} {base : Nat} {v : Value} {s : Sp} (h : SpOwn W base v s) : SpOwn W.drew base v s := h

end Go.Proofs.YtjmfefaoenmppaaGreatDoor

namespace Go.Proofs.YtjmfefaoenmppaaGreatDoor
open Go.RowKit

theorem uty : MTy Tryz.prog 138 3 155 := ⟨Tryz.underlying138, Tryz.underlying3, fun w => by kernel_rfl⟩

/-- The boxes and rows of a space that is being written out. -/
structure Laid (H g p q : Nat) : Prop where
  g0 : H < g
  p0 : H < p
  q0 : H < q
  gp : g ≠ p
  gq : g ≠ q
  pq : p ≠ q
def Out (H g p q : Nat) (U : Us) (W : World) : Prop :=
  B2 W H 35 (.slice none 0 0) (.slice none 0 0) ∧ B2 W g 35 (.slice (some ⟨p, 0, none⟩) 64 64) (.slice (some ⟨q, 0, none⟩) 64 64) ∧
  W.ownsRow (H + 1) 3 1 (.slice (some ⟨p, 0, none⟩) 64 64) 64 (intCells (spOf U).refs) ∧ W.ownsRow (H + 1) 3 1 (.slice (some ⟨q, 0, none⟩) 64 64) 64 (intCells (spOf U).last)
theorem Out.below {H g p q : Nat} {U : Us} {W W' : World} (h : Out H g p q U W) (hb : Below W.heap.size W W') : Out H g p q U W' :=
  ⟨h.1.below hb, h.2.1.below hb, own_bel h.2.2.1 hb, own_bel h.2.2.2 hb⟩
theorem Out.grown {H g p q r : Nat} {U : Us} {W W' : World} (h : Out H g p q U W) (hg : W.grownBy W' (some r)) (h1 : H ≠ r) (h2 : g ≠ r) (h3 : p ≠ r) (h4 : q ≠ r) : Out H g p q U W' :=
  ⟨h.1.grown hg (by simpa using h1), h.2.1.grown hg (by simpa using h2), h.2.2.1.kept hg (.inr (by simpa [Value.ownBlock] using h3)), h.2.2.2.kept hg (.inr (by simpa [Value.ownBlock] using h4))⟩

theorem own_at {W : World} {base p : Nat} (hb : base ≤ p) (h : W.heap[p]? = some (.cells z64 3 (0, 0))) : W.ownsRow base 3 1 (.slice (some ⟨p, 0, none⟩) 64 64) 64 (intCells (List.replicate 64 0)) := by
  have hs : z64.size = 64 := by simp [z64, intCells]
  refine ⟨by rw [intCells_len]; simp, .inr ⟨p, 64, z64, rfl, hb, h, Nat.le_refl _, by unfold maxLen; omega, by rw [hs], ?_⟩⟩
  have hz : z64.toList = intCells (List.replicate 64 0) := by simp [z64]
  rw [hz, List.take_of_length_le (by simp [intCells])]
theorem Out.mk {H g p q : Nat} {W : World} (hL : Laid H g p q) (h0 : W.heap[H]? = some (.cells #[.slice none 0 0, .slice none 0 0] 35 (0, 0))) (h1 : W.heap[g]? = some (.cells #[.slice (some ⟨p, 0, none⟩) 64 64, .slice (some ⟨q, 0, none⟩) 64 64] 35 (0, 0)))
    (h2 : W.heap[p]? = some (.cells z64 3 (0, 0))) (h3 : W.heap[q]? = some (.cells z64 3 (0, 0))) : Out H g p q zeroU W := by
  have e1 : (spOf zeroU).refs = List.replicate 64 0 := by rw [newS_of]; rfl
  have e2 : (spOf zeroU).last = List.replicate 64 0 := by rw [newS_of]; rfl
  refine ⟨h0, h1, ?_, ?_⟩
  · rw [e1]; exact own_at hL.p0 h2
  · rw [e2]; exact own_at hL.q0 h3

theorem grown_set (W : World) (a : Addr) (u : Value) : W.grownBy (W.setCell a u) (some a.block) :=
  ⟨rfl, rfl, rfl, by simp [World.setCell], fun k _ hk => Below.heap_setCell _ _ _ k (fun e => hk (by rw [e]))⟩
theorem Out.put {H g p q k : Nat} {L : Us} {W : World} (hL : Laid H g p q) (h : Out H g p q L W) (x y : Int) :
    Out H g p q (L.set k (x, y)) ((W.setCell ⟨p, k, none⟩ (.int .i64 x)).setCell ⟨q, k, none⟩ (.int .i64 y)) := by
  obtain ⟨h0, h1, h2, h3⟩ := h
  have a2 := (h2.stored k (.int .i64 x)).1
  have a3 := h3.kept (grown_set W ⟨p, k, none⟩ (.int .i64 x)) (.inr (by simpa [Value.ownBlock] using hL.pq.symm))
  have b3 := (a3.stored k (.int .i64 y)).1
  have b2 := a2.kept (grown_set (W.setCell ⟨p, k, none⟩ (.int .i64 x)) ⟨q, k, none⟩ (.int .i64 y)) (.inr (by simpa [Value.ownBlock] using hL.pq))
  rw [intCells_set] at b2 b3
  rw [Out, spOf_set]
  exact ⟨(h0.set (by have := hL.p0; show H ≠ p; omega) _).set (by have := hL.q0; show H ≠ q; omega) _, (h1.set hL.gp _).set hL.gq _, b2, b3⟩
theorem own_old {w : World} {base p : Nat} {xs : List Int} (h : w.ownsRow base 3 1 (.slice (some ⟨p, 0, none⟩) 64 64) 64 (intCells xs)) {k : Nat} (hk : k < 64) : ∃ v, w.cell? ⟨p, k, none⟩ = some v ∧ w.frozen? ⟨p, k, none⟩ = false := by
  have hl := h.1
  refine ⟨(intCells xs)[k]'(by omega), ?_, h.frozenAt k⟩
  rw [h.cellAt k (by omega)]
  exact List.getElem?_eq_getElem _

theorem heap4 (W : World) (o1 o2 o3 o4 : Obj) : ((((W.alloc o1).alloc o2).alloc o3).alloc o4).drew.heap[W.heap.size]? = some o1 ∧ ((((W.alloc o1).alloc o2).alloc o3).alloc o4).drew.heap[W.heap.size + 1]? = some o2 ∧
    ((((W.alloc o1).alloc o2).alloc o3).alloc o4).drew.heap[W.heap.size + 1 + 1]? = some o3 ∧ ((((W.alloc o1).alloc o2).alloc o3).alloc o4).drew.heap[W.heap.size + 1 + 1 + 1]? = some o4 := by
  show ((((W.alloc o1).alloc o2).alloc o3).alloc o4).heap[W.heap.size]? = some o1 ∧ ((((W.alloc o1).alloc o2).alloc o3).alloc o4).heap[W.heap.size + 1]? = some o2 ∧
    ((((W.alloc o1).alloc o2).alloc o3).alloc o4).heap[W.heap.size + 1 + 1]? = some o3 ∧ ((((W.alloc o1).alloc o2).alloc o3).alloc o4).heap[W.heap.size + 1 + 1 + 1]? = some o4
  have e1 := heap_alloc_new W o1
  have e2 := heap_alloc_new (W.alloc o1) o2
  have e3 := heap_alloc_new ((W.alloc o1).alloc o2) o3
  have e4 := heap_alloc_new (((W.alloc o1).alloc o2).alloc o3) o4
  simp only [World.size_alloc] at e1 e2 e3 e4
  refine ⟨?_, ?_, ?_, e4⟩
  · rw [Below.heap_alloc _ _ _ (by simp only [World.size_alloc]; omega), Below.heap_alloc _ _ _ (by simp only [World.size_alloc]; omega), Below.heap_alloc _ _ _ (by simp only [World.size_alloc]; omega), e1]
  · rw [Below.heap_alloc _ _ _ (by simp only [World.size_alloc]; omega), Below.heap_alloc _ _ _ (by simp only [World.size_alloc]; omega), e2]
  · rw [Below.heap_alloc _ _ _ (by simp only [World.size_alloc]; omega), e3]

set_option maxRecDepth 100000 in
set_option maxHeartbeats 4000000 in
theorem impl_space (b : Nat) (U : Us) (w : World) (hU : UMap w Tryz.prog 3 b U) : Calls Tryz.prog 143 #[.map (some b)] w (SPost (spOf U) w) := by
  have hmk := make64
  obtain ⟨Z, hZ⟩ : ∃ Z, Z = z64 := ⟨_, rfl⟩
  rw [← hZ] at hmk
  have HZ := Lib.hid hZ
  clear hZ
  go_enter Tryz.func143, Tryz.ntmps143
  go_upto_region 2 with fail
  go_cut [3] (fun s wx => ∃ g p q, s = .pointer (some ⟨g, 0, none⟩) ∧ Laid w.heap.size g p q ∧ Out w.heap.size g p q zeroU wx ∧ Below w.heap.size w wx)
  case first =>
    go_wp2
    go_region
    all_goals go_wp2_with fail
    all_goals go_meet
    all_goals obtain rfl := HZ.out
    all_goals first
      | exact ⟨_, w.heap.size + 1, w.heap.size + 1 + 1, rfl, ⟨by omega, by omega, by omega, by omega, by omega, by omega⟩, Out.mk ⟨by omega, by omega, by omega, by omega, by omega, by omega⟩ (heap4 w _ _ _ _).1 (heap4 w _ _ _ _).2.2.2 (heap4 w _ _ _ _).2.1 (heap4 w _ _ _ _).2.2.1, (bel_new (bel_new (bel_new (bel_new (Below.refl _ _) _) _) _) _).drew⟩
      | exact ⟨_, w.heap.size + 1, w.heap.size + 1 + 1 + 1, rfl, ⟨by omega, by omega, by omega, by omega, by omega, by omega⟩, Out.mk ⟨by omega, by omega, by omega, by omega, by omega, by omega⟩ (heap4 w _ _ _ _).1 (heap4 w _ _ _ _).2.2.1 (heap4 w _ _ _ _).2.1 (heap4 w _ _ _ _).2.2.2, (bel_new (bel_new (bel_new (bel_new (Below.refl _ _) _) _) _) _).drew⟩
      | exact ⟨_, w.heap.size + 1 + 1, w.heap.size + 1, rfl, ⟨by omega, by omega, by omega, by omega, by omega, by omega⟩, Out.mk ⟨by omega, by omega, by omega, by omega, by omega, by omega⟩ (heap4 w _ _ _ _).1 (heap4 w _ _ _ _).2.2.2 (heap4 w _ _ _ _).2.2.1 (heap4 w _ _ _ _).2.1, (bel_new (bel_new (bel_new (bel_new (Below.refl _ _) _) _) _) _).drew⟩
      | exact ⟨_, w.heap.size + 1 + 1, w.heap.size + 1 + 1 + 1, rfl, ⟨by omega, by omega, by omega, by omega, by omega, by omega⟩, Out.mk ⟨by omega, by omega, by omega, by omega, by omega, by omega⟩ (heap4 w _ _ _ _).1 (heap4 w _ _ _ _).2.1 (heap4 w _ _ _ _).2.2.1 (heap4 w _ _ _ _).2.2.2, (bel_new (bel_new (bel_new (bel_new (Below.refl _ _) _) _) _) _).drew⟩
      | exact ⟨_, w.heap.size + 1 + 1 + 1, w.heap.size + 1, rfl, ⟨by omega, by omega, by omega, by omega, by omega, by omega⟩, Out.mk ⟨by omega, by omega, by omega, by omega, by omega, by omega⟩ (heap4 w _ _ _ _).1 (heap4 w _ _ _ _).2.2.1 (heap4 w _ _ _ _).2.2.2 (heap4 w _ _ _ _).2.1, (bel_new (bel_new (bel_new (bel_new (Below.refl _ _) _) _) _) _).drew⟩
      | exact ⟨_, w.heap.size + 1 + 1 + 1, w.heap.size + 1 + 1, rfl, ⟨by omega, by omega, by omega, by omega, by omega, by omega⟩, Out.mk ⟨by omega, by omega, by omega, by omega, by omega, by omega⟩ (heap4 w _ _ _ _).1 (heap4 w _ _ _ _).2.1 (heap4 w _ _ _ _).2.2.2 (heap4 w _ _ _ _).2.2.1, (bel_new (bel_new (bel_new (bel_new (Below.refl _ _) _) _) _) _).drew⟩
  case rest =>
    obtain ⟨g, p, q, rfl, hL, hO, hB⟩ := hcut
    obtain ⟨w1, e1, hO, hB⟩ : ∃ W, W = _ ∧ Out w.heap.size g p q zeroU W ∧ Below w.heap.size w W := ⟨_, rfl, hO, hB⟩
    subst e1
    have hb := hU.lt
    have hU1 := hU.below hB
    have hp := hO.2.2.1.lt p rfl
    have hq := hO.2.2.2.lt q rfl
    have hgl := hO.2.1.lt
    clear hU hmk
    go_wp2_with (at_range; refine wpList_urange _ uty rfl _ rfl rfl hU1 ?_; intro w2 hR hg2 hs2)
    go_frame
    have hO := hO.below (Below.refl _ _ |>.grown hg2 (Nat.le_refl _) (fun k e => by cases e))
    have hB := hB.grown hg2 hB.size (fun k e => by cases e)
    clear hU1
    go_loopw [4] (fun _ wr => ∃ L, URange wr Tryz.prog 3 b w1.heap.size U L ∧ Out w.heap.size g p q L wr ∧ Below w.heap.size w wr) (fun _ wr => wr.rangeLeft b w1.heap.size)
    case atStart => exact ⟨_, hR, hO, hB⟩
    case round =>
      clear hR hO hB
      obtain ⟨L, hR, hO, hB⟩ := hrel
      go_wp2_with (at_next; refine wpList_unext _ uty rfl _ rfl rfl hR ?_ ?_)
      · intro hLU
        obtain ⟨⟨y0, y1⟩, f0, f1⟩ := hO.1.cells
        obtain ⟨⟨z0, z1⟩, k0, k1⟩ := hO.2.1.cells
        go_wp2_with fail
        subst hLU
        have hO2 : SpOwn wr (w.heap.size + 1) (.agg #[.slice (some ⟨p, 0, none⟩) 64 64, .slice (some ⟨q, 0, none⟩) 64 64]) (spOf L) := by
          have e1 : (spOf L).refs.length = 64 := by simp [spOf, hR.len]
          have e2 : (spOf L).last.length = 64 := by simp [spOf, hR.len]
          refine ⟨_, _, rfl, by rw [e1]; exact hO.2.2.1, by rw [e2]; exact hO.2.2.2, fun k e3 e4 => ?_⟩
          simp only [Value.ownBlock, Option.some.injEq] at e3 e4
          exact hL.pq (by omega)
        refine bodyPost_ret (v := .agg #[.slice (some ⟨p, 0, none⟩) 64 64, .slice (some ⟨q, 0, none⟩) 64 64]) (by simp [results, Tryz.f143, go_sem, y0, y1]) rfl (SPost.mk (by simp [spOf, hR.len]) (by simp [spOf, hR.len]) (((hO2.set (p := ⟨w.heap.size, 0, none⟩) (Nat.lt_succ_self _) _).set (p := ⟨w.heap.size, 1, none⟩) (Nat.lt_succ_self _) _).base (Nat.le_succ _)) ((hB.setCell (p := ⟨w.heap.size, 0, none⟩) (Nat.le_refl _) _).setCell (p := ⟨w.heap.size, 1, none⟩) (Nat.le_refl _) _))
      · intro n x y w3 n0 n1 hxy hne hR3 hlt hg3 hs3 hen
        obtain ⟨k, rfl⟩ : ∃ k : Nat, n = (k : Int) := ⟨n.toNat, by omega⟩
        rw [Int.toNat_natCast] at hR3
        have hk : k < 64 := by omega
        have hO3 := hO.grown hg3 (by omega) (by omega) (by omega) (by omega)
        have hB3 := hB.grown hg3 hB.size (fun k e => by cases e; omega)
        have ha := (Below.refl w3.heap.size w3).alloc (Nat.le_refl _) (.cells #[.int .i64 x, .int .i64 y] 155)
        have hOb := hO3.below ha
        have hRb := hR3.grown (World.grownBy_alloc w3 (.cells #[.int .i64 x, .int .i64 y] 155) none) (by simp) (by simp)
        have hl3 := hR3.left_kept (World.grownBy_alloc w3 (.cells #[.int .i64 x, .int .i64 y] 155) none) (by simp) (by simp)
        obtain ⟨⟨z0, z1⟩, k0, k1⟩ := hOb.2.1.cells
        obtain ⟨v1, c1, d1⟩ := own_old hOb.2.2.1 hk
        obtain ⟨v2, c2, d2⟩ := own_old (hOb.2.2.2.kept (grown_set _ ⟨p, k, none⟩ (.int .i64 x)) (.inr (by simpa [Value.ownBlock] using hL.pq.symm))) hk
        have hpr := (hO3.2.2.1.lt p rfl).2
        have hne3 : w3.heap.size ≠ p := by omega
        have bB := B2.new w3 155 (.int .i64 x) (.int .i64 y)
        obtain ⟨⟨m0, m1⟩, _, _⟩ := bB.cells
        obtain ⟨⟨m2, m3⟩, _, _⟩ := (bB.set (p := ⟨p, k, none⟩) hne3 (.int .i64 x)).cells
        obtain ⟨⟨m4, m5⟩, _, _⟩ := (hOb.2.1.set (p := ⟨p, k, none⟩) hL.gp (.int .i64 x)).cells
        have hOut := Out.put (k := k) hL hOb x y
        have hBe := ((bel_then hB3 ha).setCell (p := ⟨p, k, none⟩) (by show w.heap.size ≤ p; omega) (.int .i64 x)).setCell (p := ⟨q, k, none⟩) (by show w.heap.size ≤ q; omega) (.int .i64 y)
        have hRe := (hRb.grown (grown_set _ ⟨p, k, none⟩ (.int .i64 x)) (by simp; omega) (by simp; omega)).grown (grown_set _ ⟨q, k, none⟩ (.int .i64 y)) (by simp; omega) (by simp; omega)
        have hle : World.rangeLeft (((w3.alloc (.cells #[.int .i64 x, .int .i64 y] 155)).setCell ⟨p, k, none⟩ (.int .i64 x)).setCell ⟨q, k, none⟩ (.int .i64 y)) b w1.heap.size < wr.rangeLeft b w1.heap.size := by
          rw [(hRb.grown (grown_set _ ⟨p, k, none⟩ (.int .i64 x)) (by simp; omega) (by simp; omega)).left_kept (grown_set _ ⟨q, k, none⟩ (.int .i64 y)) (by simp; omega) (by simp; omega),
            hRb.left_kept (grown_set _ ⟨p, k, none⟩ (.int .i64 x)) (by simp; omega) (by simp; omega), hl3]
          exact hlt
        have HF := Lib.hid (And.intro hRe (And.intro hOut (And.intro hBe hle)))
        clear hOut hBe hRe hle hl3 hRb hOb hO3 hB3 hR hO hB hR3 hlt hg3 hs3 hpr
        go_wp2_with fail
        go_region
        go_wp2_with fail
        go_roundw
        case rel => exact ⟨_, HF.out.1, HF.out.2.1, HF.out.2.2.1.drew⟩
        case measure => exact HF.out.2.2.2
end Go.Proofs.YtjmfefaoenmppaaGreatDoor

namespace Go.Proofs.YtjmfefaoenmppaaGreatDoor
open Go.RowKit

/-- The first k rows. -/
def upto (U : Us) (k : Nat) : Us := U.take k ++ List.replicate (64 - k) (0, 0)
theorem upto_zero (U : Us) : upto U 0 = zeroU := by simp [upto, zeroU]
theorem upto_all {U : Us} (h : U.length = 64) : upto U 64 = U := by
  unfold upto
  rw [List.take_of_length_le (by omega)]
  simp
theorem upto_set {U : Us} (h : U.length = 64) {k : Nat} (hk : k < 64) : (upto U k).set k (U.getD k (0, 0)) = upto U (k + 1) := by
  unfold upto
  have hl : (U.take k).length = k := by simp; omega
  obtain ⟨m, hm⟩ : ∃ m, 64 - k = m + 1 := ⟨64 - k - 1, by omega⟩
  rw [hm, show 64 - (k + 1) = m by omega, List.set_append_right _ _ (by omega), hl, Nat.sub_self, List.replicate_succ, List.set_cons_zero,
    List.take_succ_eq_append_getElem (by omega : k < U.length), List.append_assoc, List.getD_eq_getElem?_getD, List.getElem?_eq_getElem (by omega : k < U.length)]
  rfl
theorem upto_same {U : Us} (h : U.length = 64) {k : Nat} (hk : k < 64) (hz : U.getD k (0, 0) = (0, 0)) : upto U (k + 1) = upto U k := by
  rw [← upto_set h hk, hz]
  apply List.ext_getElem?
  intro i
  by_cases hi : i = k
  · subst hi
    rw [List.getElem?_set_self (by simp [upto]; omega)]
    unfold upto
    rw [List.getElem?_append_right (by simp; omega), List.length_take, Nat.min_eq_left (by omega), Nat.sub_self, List.getElem?_replicate, if_pos (by omega)]
  · rw [List.getElem?_set_ne (by omega)]

def UsPost (s : Sp) (w : World) (r : Ending) (w' : World) : Prop :=
  Below w.heap.size w w' ∧ ((SpOk s ∧ ∃ b, w.heap.size ≤ b ∧ r = .returned (.tuple #[.map (some b), .bool true]) ∧ UMap w' Tryz.prog 3 b (usOf s)) ∨ (¬ SpOk s ∧ r = .returned (.tuple #[.map none, .bool false])))

theorem free_yes {x y : Int} (h : (x, y) = (0, 0)) : freeB x y = true := by
  cases h
  rfl
theorem free_no {x y : Int} (h : (x, y) ≠ (0, 0)) : freeB x y = false := by
  cases e : freeB x y with
  | false => rfl
  | true =>
    simp [freeB] at e
    exact absurd (by rw [e.1, e.2]) h
theorem row_use {k : Nat} {x y : Int} (hne : (x, y) ≠ (0, 0)) : rowOk k (x, y) ↔ (8 ≤ (k : Int) ∧ useB x y = true) := by
  unfold rowOk useB inB
  rw [Bool.and_eq_true, decide_eq_true_eq, decide_eq_true_eq]
  constructor
  · rintro (⟨a, b⟩ | ⟨a, b, c, d⟩)
    · simp only at a b
      exact absurd (by rw [a, b]) hne
    · exact ⟨by omega, by omega, by omega⟩
  · rintro ⟨a, b, c⟩
    exact .inr ⟨by omega, by omega, by omega, by omega⟩

set_option maxRecDepth 100000 in
set_option maxHeartbeats 4000000 in
theorem impl_uses (A B : Option Addr) (c e : Nat) (s : Sp) (w : World) (hn : s.refs.length ≤ 1048576) (hm : s.last.length ≤ 1048576) (hA : SpAt w A B s) :
    Calls Tryz.prog 117 #[.agg #[.slice A s.refs.length c, .slice B s.last.length e]] w (UsPost s w) := by
  by_cases h1 : s.refs.length = 64
  · by_cases h2 : s.last.length = 64
    · have hmm := @run_makeMap Tryz.prog
      obtain ⟨hA1, hA2⟩ := hA
      have hU : (usOf s).length = 64 := usOf_len h1 h2
      have hq1 : ((64 : Int) != 64) = false := by decide
      obtain ⟨rs, hrs⟩ : ∃ rs, rs = s.refs := ⟨_, rfl⟩
      obtain ⟨ls, hls⟩ : ∃ ls, ls = s.last := ⟨_, rfl⟩
      obtain ⟨U, hUU⟩ : ∃ U, U = usOf s := ⟨_, rfl⟩
      have hat : ∀ k, k < 64 → U.getD k (0, 0) = (rs.getD k 0, ls.getD k 0) := fun k hk => by rw [hUU, hrs, hls]; exact usOf_at h1 h2 k hk
      have hok : SpOk s ↔ ∀ i, i < 64 → rowOk i (U.getD i (0, 0)) := by rw [hUU]; exact ⟨fun h => h.2.2, fun h => ⟨h1, h2, h⟩⟩
      have hP : ∀ r w', UsPost s w r w' ↔ (Below w.heap.size w w' ∧ (((∀ i, i < 64 → rowOk i (U.getD i (0, 0))) ∧ ∃ b, w.heap.size ≤ b ∧ r = .returned (.tuple #[.map (some b), .bool true]) ∧ UMap w' Tryz.prog 3 b U) ∨ (¬ (∀ i, i < 64 → rowOk i (U.getD i (0, 0))) ∧ r = .returned (.tuple #[.map none, .bool false])))) := fun r w' => by
        unfold UsPost
        rw [hok, hUU]
      rw [← hrs] at hA1 h1
      rw [← hls] at hA2 h2
      rw [← hUU] at hU
      rw [← hrs, ← hls]
      refine Calls.mono ?_ (fun r w' h => (hP r w').2 h)
      clear hn hm hrs hls hUU hok hP
      have HAT := Lib.hid hat
      have H1 := Lib.hid h1
      have H2 := Lib.hid h2
      have HU := Lib.hid hU
      rw [h1, h2]
      clear hat h1 h2 hU
      have b0 := B2.new w 35 (.slice A 64 c) (.slice B 64 e)
      go_enter Tryz.func117, Tryz.ntmps117
      go_wp2
      go_loopw [22] (fun i wr => ∃ k : Nat, k ≤ 64 ∧ i = .int .i64 k ∧ (∀ j, j < k → rowOk j (U.getD j (0, 0))) ∧ UMap wr Tryz.prog 3 (w.heap.size + 1) (upto U k) ∧ Below w.heap.size w wr ∧ B2 wr w.heap.size 35 (.slice A 64 c) (.slice B 64 e)) (fun i _ => 64 - (intOf i).toNat)
      case atStart =>
        have hM := UMap.made (w.alloc (.cells #[.slice A 64 c, .slice B 64 e] 35)) Tryz.prog 3
        rw [World.size_alloc] at hM
        exact ⟨0, by omega, rfl, fun j hj => absurd hj (Nat.not_lt_zero j), by rw [upto_zero]; exact hM, bel_new (bel_new (Below.refl _ _) _) _, b0.alloc _⟩
      case round =>
        obtain ⟨k, hk, rfl, hj, hM, hB, hb⟩ := hrel
        have HJ := Lib.hid hj
        clear b0 hj
        by_cases hlt : k < 64
        · obtain ⟨b1, o1, rfl, hl1, hc1⟩ := (hA1.below hB).int k (by have := H1.out; omega)
          obtain ⟨b2, o2, rfl, hl2, hc2⟩ := (hA2.below hB).int k (by have := H2.out; omega)
          have hu := HAT.out k hlt
          rw [List.getD_eq_getElem?_getD, List.getD_eq_getElem?_getD, List.getD_eq_getElem?_getD, List.getElem?_eq_getElem (by have := H1.out; omega : k < rs.length), List.getElem?_eq_getElem (by have := H2.out; omega : k < ls.length)] at hu
          obtain ⟨x, hx⟩ : ∃ x, x = rs[k]'(by have := H1.out; omega) := ⟨_, rfl⟩
          obtain ⟨y, hy⟩ : ∃ y, y = ls[k]'(by have := H2.out; omega) := ⟨_, rfl⟩
          rw [← hx] at hc1
          rw [← hy] at hc2
          simp only [← hx, ← hy, Option.getD_some, ← List.getD_eq_getElem?_getD] at hu
          have hu2 : U.getD k (0, 0) = (x, y) := by rw [List.getD_eq_getElem?_getD]; exact hu
          have HX := Lib.hid hu2
          have hwl := hb.lt
          obtain ⟨⟨x0, x1⟩, _, _⟩ := hb.cells
          have hlt' : (k : Int) < 64 := by omega
          have hF := fun w => i_free x y w
          clear hx hy hu hu2 hA1 hA2
          by_cases hz : (x, y) = (0, 0)
          · rw [free_yes hz] at hF
            have hnew : UMap wr Tryz.prog 3 (w.heap.size + 1) (upto U (k + 1)) := by rw [upto_same HU.out hlt (by rw [HX.out]; exact hz)]; exact hM
            have HZ := Lib.hid hz
            clear hz
            go_wp2_with (go_at_call 133; refine (hF _).mono ?_; rintro r w' ⟨rfl, rfl⟩)
            go_roundw
            case rel => exact ⟨k + 1, by omega, by go_num, fun j hj => by
              rcases Nat.lt_succ_iff_lt_or_eq.1 hj with h | h
              · exact HJ.out j h
              · rw [h, HX.out]; exact .inl ⟨congrArg Prod.fst HZ.out, congrArg Prod.snd HZ.out⟩, hnew.below (bel_new (bel_new (Below.refl _ _) _) _), bel_new (bel_new hB _) _, (hb.alloc _).alloc _⟩
            case measure => simp [intOf]; omega
          · rw [free_no hz] at hF
            have hR := fun w => i_row (k : Int) w
            have hE := fun w => i_use x y w
            by_cases h8 : inB (k : Int) 8 63 = true
            · rw [h8] at hR
              by_cases hgood : useB x y = true
              · rw [hgood] at hE
                have hro : rowOk k (x, y) := (row_use hz).2 ⟨by unfold inB at h8; rw [decide_eq_true_eq] at h8; exact h8.1, hgood⟩
                have hnew : (upto U k).set k (x, y) = upto U (k + 1) := by rw [← HX.out]; exact upto_set HU.out hlt
                have HZ := Lib.hid hz
                have HRO := Lib.hid hro
                have HN := Lib.hid hnew
                clear hz h8 hgood hro hnew
                go_wp2_with (first
                  | (go_at_call 133; refine (hF _).mono ?_; rintro r w' ⟨rfl, rfl⟩)
                  | (go_at_call 97; refine (hR _).mono ?_; rintro r w' ⟨rfl, rfl⟩)
                  | (go_at_call 134; refine (hE _).mono ?_; rintro r w' ⟨rfl, rfl⟩)
                  | (at_mapUpdate; refine wpList_uput _ uty rfl _ _ _ rfl rfl (hM.below (bel_new (bel_new (bel_new (Below.refl _ _) _) _) _)) _ (x, y) rfl rfl (by omega) (by omega) HZ.out ?_; intro w5 hM5 hg5; rw [Int.toNat_natCast, HN.out] at hM5))
                have B3 := bel_new (bel_new (bel_new hB (.cells #[.int .i64 x, .int .i64 y] 155)) (.cells #[.int .i64 x, .int .i64 y] 155)) (.cells #[.int .i64 x, .int .i64 y] 155)
                go_roundw
                case rel => exact ⟨k + 1, by omega, by go_num, fun j hj => by
                  rcases Nat.lt_succ_iff_lt_or_eq.1 hj with h | h
                  · exact HJ.out j h
                  · rw [h, HX.out]; exact HRO.out, hM5, B3.grown hg5 B3.size (fun k e => by cases e; omega), (((hb.alloc _).alloc _).alloc _).grown hg5 (by simp)⟩
                case measure => simp [intOf]; omega
              · have hg2 : useB x y = false := by simpa using hgood
                rw [hg2] at hE
                have hro : ¬ (∀ i, i < 64 → rowOk i (U.getD i (0, 0))) := fun h => by
                  have := h k hlt
                  rw [HX.out] at this
                  exact hgood ((row_use hz).1 this).2
                clear hz h8 hgood hg2
                go_wp2_with (first
                  | (go_at_call 133; refine (hF _).mono ?_; rintro r w' ⟨rfl, rfl⟩)
                  | (go_at_call 97; refine (hR _).mono ?_; rintro r w' ⟨rfl, rfl⟩)
                  | (go_at_call 134; refine (hE _).mono ?_; rintro r w' ⟨rfl, rfl⟩))
                go_ret2
                exact ⟨bel_new (bel_new (bel_new hB _) _) _, .inr ⟨hro, rfl⟩⟩
            · have h82 : inB (k : Int) 8 63 = false := by simpa using h8
              rw [h82] at hR
              have hro : ¬ (∀ i, i < 64 → rowOk i (U.getD i (0, 0))) := fun h => by
                have := h k hlt
                rw [HX.out] at this
                exact h8 (inB_yes ⟨((row_use hz).1 this).1, by omega⟩)
              clear hz h8 h82
              go_wp2_with (first
                | (go_at_call 133; refine (hF _).mono ?_; rintro r w' ⟨rfl, rfl⟩)
                | (go_at_call 97; refine (hR _).mono ?_; rintro r w' ⟨rfl, rfl⟩))
              go_ret2
              exact ⟨bel_new (bel_new hB _) _, .inr ⟨hro, rfl⟩⟩
        · have hke : k = 64 := by omega
          subst hke
          rw [upto_all HU.out] at hM
          go_wp2_with fail
          go_ret2
          exact ⟨hB, .inl ⟨HJ.out, _, Nat.le_succ _, rfl, hM⟩⟩
    · have hno : ¬ SpOk s := fun h => h2 h.2.1
      have hq1 : ((64 : Int) != 64) = false := by decide
      have hq2 : ((s.last.length : Int) != 64) = true := by simp; omega
      rw [h1]
      have HNO := Lib.hid hno
      clear hno h1 h2 hA hn hm
      go_enter Tryz.func117, Tryz.ntmps117
      go_wp2_with fail
      go_ret2
      exact ⟨bel_new (Below.refl _ _) _, .inr ⟨HNO.out, rfl⟩⟩
  · have hno : ¬ SpOk s := fun h => h1 h.1
    have hq1 : ((s.refs.length : Int) != 64) = true := by simp; omega
    have HNO := Lib.hid hno
    clear hno h1 hA hn hm
    go_enter Tryz.func117, Tryz.ntmps117
    go_wp2_with fail
    go_ret2
    exact ⟨bel_new (Below.refl _ _) _, .inr ⟨HNO.out, rfl⟩⟩
theorem uses_yes (A B : Option Addr) (c e : Nat) (s : Sp) (w : World) (hs : SpOk s) (hA : SpAt w A B s) :
    Calls Tryz.prog 117 #[.agg #[.slice A s.refs.length c, .slice B s.last.length e]] w fun r w' => ∃ b, w.heap.size ≤ b ∧ r = .returned (.tuple #[.map (some b), .bool true]) ∧ UMap w' Tryz.prog 3 b (usOf s) ∧ Below w.heap.size w w' :=
  (impl_uses A B c e s w (by rw [hs.1]; omega) (by rw [hs.2.1]; omega) hA).mono fun r w' ⟨h1, h2⟩ => by
    rcases h2 with ⟨_, b, h3, h4, h5⟩ | ⟨h3, _⟩
    · exact ⟨b, h3, h4, h5, h1⟩
    · exact absurd hs h3
theorem uses_no (A B : Option Addr) (c e : Nat) (s : Sp) (w : World) (hn : s.refs.length ≤ 1048576) (hm : s.last.length ≤ 1048576) (hs : ¬ SpOk s) (hA : SpAt w A B s) :
    Calls Tryz.prog 117 #[.agg #[.slice A s.refs.length c, .slice B s.last.length e]] w fun r w' => r = .returned (.tuple #[.map none, .bool false]) ∧ Below w.heap.size w w' :=
  (impl_uses A B c e s w hn hm hA).mono fun r w' ⟨h1, h2⟩ => by
    rcases h2 with ⟨h3, _⟩ | ⟨_, h4⟩
    · exact absurd h3 hs
    · exact ⟨h4, h1⟩
end Go.Proofs.YtjmfefaoenmppaaGreatDoor

namespace Go.Proofs.YtjmfefaoenmppaaGreatDoor
open Go.RowKit

theorem SPost.mk2 {s : Sp} {b : Bool} {w w' : World} {A B : Option Addr} {c e n m : Nat} (hn : n = s.refs.length) (hm : m = s.last.length) (h1 : SpOwn w' w.heap.size (.agg #[.slice A n c, .slice B m e]) s) (h2 : Below w.heap.size w w') : SPost2 s b w (.returned (.tuple #[.agg #[.slice A n c, .slice B m e], .bool b])) w' := by
  subst hn hm
  exact ⟨A, c, B, e, rfl, h1, h2⟩

set_option maxRecDepth 100000 in
set_option maxHeartbeats 2000000 in
theorem impl_ok (A B : Option Addr) (c e : Nat) (s : Sp) (w : World) (hn : s.refs.length ≤ 1048576) (hm : s.last.length ≤ 1048576) (hA : SpAt w A B s) :
    Calls Tryz.prog 93 #[.agg #[.slice A s.refs.length c, .slice B s.last.length e]] w fun r w' => r = .returned (.bool (okS s)) ∧ Below w.heap.size w w' := by
  have hW := hA.below (bel_new (Below.refl w.heap.size w) (.cells #[.slice A s.refs.length c, .slice B s.last.length e] 35))
  by_cases hs : SpOk s
  · have hU := uses_yes A B c e s _ hs hW
    rw [okS_yes hs]
    obtain ⟨n, hn'⟩ : ∃ n, n = s.refs.length := ⟨_, rfl⟩
    obtain ⟨m, hm'⟩ : ∃ m, m = s.last.length := ⟨_, rfl⟩
    rw [← hn', ← hm'] at hU ⊢
    clear hn' hm' hn hm hs hA hW
    go_enter Tryz.func93, Tryz.ntmps93
    go_wp2_with (go_at_call 117; refine hU.mono ?_; rintro r w2 ⟨b, hb, rfl, hM, hb2⟩)
    go_ret
    exact ⟨rfl, bel_then (bel_new (Below.refl _ _) _) hb2⟩
  · have hU := uses_no A B c e s _ hn hm hs hW
    rw [okS_no hs]
    obtain ⟨n, hn'⟩ : ∃ n, n = s.refs.length := ⟨_, rfl⟩
    obtain ⟨m, hm'⟩ : ∃ m, m = s.last.length := ⟨_, rfl⟩
    rw [← hn', ← hm'] at hU ⊢
    clear hn' hm' hn hm hs hA hW
    go_enter Tryz.func93, Tryz.ntmps93
    go_wp2_with (go_at_call 117; refine hU.mono ?_; rintro r w2 ⟨rfl, hb2⟩)
    go_ret
    exact ⟨rfl, bel_then (bel_new (Below.refl _ _) _) hb2⟩

set_option maxRecDepth 100000 in
set_option maxHeartbeats 2000000 in
theorem take_map (b : Nat) (U : Us) (n t : Int) (w : World) (hU : UMap w Tryz.prog 3 b U) (h0 : 0 ≤ n) (h1 : n < 64) (hx0 : 0 ≤ (useAt U n).1) (hx1 : (useAt U n).1 ≤ 1048576) :
    Calls Tryz.prog 142 #[.map (some b), .int .i64 n, .int .i64 t] w fun r w' => r = .returned (.tuple #[]) ∧ UMap w' Tryz.prog 3 b (takeU U n t) ∧ w.grownBy w' (some b) := by
  unfold takeU
  obtain ⟨x, hx⟩ : ∃ x, x = (useAt U n).1 := ⟨_, rfl⟩
  obtain ⟨y, hy⟩ : ∃ y, y = (useAt U n).2 := ⟨_, rfl⟩
  rw [← hx] at hx0 hx1
  rw [← hx, ← hy]
  have hl := fun w (h : UMap w Tryz.prog 3 b U) => h.look uty (n := n) (WalkArith.wf_i64 (by omega))
  simp only [← hx, ← hy] at hl
  have hl0 := hl _ hU
  have hG : ∀ z, (z = y ∧ t ≤ y) ∨ (z = t ∧ y < t) → Calls Tryz.prog 142 #[.map (some b), .int .i64 n, .int .i64 t] w fun r w' => r = .returned (.tuple #[]) ∧ UMap w' Tryz.prog 3 b (U.set n.toNat (x + 1, z)) ∧ w.grownBy w' (some b) := by
    intro z hz
    have hne : (x + 1, z) ≠ (0, 0) := fun e => by
      have := congrArg Prod.fst e
      simp only at this
      omega
    have HNE := Lib.hid hne
    clear hne hx hy hl
    rcases hz with ⟨rfl, hz⟩ | ⟨rfl, hz⟩
    · go_enter Tryz.func142, Tryz.ntmps142
      go_wp2_with (at_mapUpdate; refine wpList_uput _ uty rfl _ _ _ rfl rfl (hU.below (bel_new (Below.refl _ _) _)) _ (x + 1, _) rfl rfl h0 h1 HNE.out ?_; intro w2 hM hg)
      go_wp2_with fail
      go_end0
      exact ⟨rfl, hM, grown_trans (below_grown (bel_new (Below.refl _ _) _) _) hg⟩
    · have hz2 : ¬ z ≤ y := by omega
      go_enter Tryz.func142, Tryz.ntmps142
      go_wp2_with (at_mapUpdate; refine wpList_uput _ uty rfl _ _ _ rfl rfl (hU.below (bel_new (Below.refl _ _) _)) _ (x + 1, _) rfl rfl h0 h1 HNE.out ?_; intro w2 hM hg)
      go_wp2_with fail
      go_end0
      exact ⟨rfl, hM, grown_trans (below_grown (bel_new (Below.refl _ _) _) _) hg⟩
  exact hG _ (by omega)

set_option maxRecDepth 100000 in
set_option maxHeartbeats 2000000 in
theorem give_map (b : Nat) (U : Us) (n : Int) (w : World) (hU : UMap w Tryz.prog 3 b U) (h0 : 0 ≤ n) (h1 : n < 64) (hx0 : 1 ≤ (useAt U n).1) (hx1 : (useAt U n).1 ≤ (useAt U n).2) (hx2 : (useAt U n).2 ≤ 1048576) :
    Calls Tryz.prog 157 #[.map (some b), .int .i64 n] w fun r w' => r = .returned (.tuple #[]) ∧ UMap w' Tryz.prog 3 b (giveU U n) ∧ w.grownBy w' (some b) := by
  unfold giveU
  obtain ⟨x, hx⟩ : ∃ x, x = (useAt U n).1 := ⟨_, rfl⟩
  obtain ⟨y, hy⟩ : ∃ y, y = (useAt U n).2 := ⟨_, rfl⟩
  rw [← hx] at hx0
  rw [← hx, ← hy] at hx1
  rw [← hy] at hx2
  rw [← hx, ← hy]
  have hl := fun w (h : UMap w Tryz.prog 3 b U) => h.look uty (n := n) (WalkArith.wf_i64 (by omega))
  simp only [← hx, ← hy] at hl
  have hl0 := hl _ hU
  clear hx hy hl
  by_cases h : x = 1
  · subst h
    rw [if_pos rfl]
    go_enter Tryz.func157, Tryz.ntmps157
    go_wp2_with (at_delete; refine wpList_udel _ uty rfl _ _ rfl rfl (hU.below (bel_new (Below.refl _ _) _)) _ rfl h0 h1 ?_; intro w2 hM hg)
    exact bodyPost_ret (v := .tuple #[]) (by simp [results, Tryz.f157, go_sem]) rfl ⟨rfl, hM, grown_trans (below_grown (bel_new (Below.refl _ _) _) _) hg⟩
  · rw [if_neg h]
    have hq : (x == 1) = false := by simpa using h
    have hne : (x - 1, y) ≠ (0, 0) := fun e => by
      have := congrArg Prod.fst e
      simp only at this
      omega
    have HNE := Lib.hid hne
    clear hne h
    go_enter Tryz.func157, Tryz.ntmps157
    go_wp2_with (at_mapUpdate; refine wpList_uput _ uty rfl _ _ _ rfl rfl (hU.below (bel_new (Below.refl _ _) _)) _ (x - 1, y) rfl rfl h0 h1 HNE.out ?_; intro w2 hM hg)
    go_wp2_with fail
    go_end0
    exact ⟨rfl, hM, grown_trans (below_grown (bel_new (Below.refl _ _) _) _) hg⟩
end Go.Proofs.YtjmfefaoenmppaaGreatDoor

namespace Go.Proofs.YtjmfefaoenmppaaGreatDoor
open Go.RowKit

theorem own_pos {w : World} {base n c : Nat} {A : Option Addr} {t : TypeId} {sz : Nat} {xs : List Value} (h : w.ownsRow base t sz (.slice A n c) n xs) (hn : 0 < n) : ∃ g, A = some ⟨g, 0, none⟩ ∧ base ≤ g ∧ g < w.heap.size := by
  obtain ⟨g, rfl⟩ := own_addr h hn
  exact ⟨g, rfl, (h.lt g rfl).1, (h.lt g rfl).2⟩
def refsB (s : St) : Bool := takeB s.sp.refs [] s.gone (s.txg - 1) && takeB s.sp.refs s.gone s.dead s.keep

theorem parg_lt {W : World} {A : Option Addr} {ps : List P5} {g : Nat} (h : PArg W A ps) (hg : W.heap.size ≤ g) (h0 : 0 < ps.length) : ∀ b o, A = some ⟨b, o, none⟩ → b ≠ g := fun b o e => by
  obtain ⟨b', o', e', hlt, _⟩ := h h0
  rw [e] at e'
  injection e' with e'
  injection e' with e1
  omega
set_option maxRecDepth 100000 in
set_option maxHeartbeats 4000000 in
theorem take_any (base g c cc : Nat) (A : Option Addr) (R : List Int) (pre L : List P5) (top : Int) (xs : List Int) (w w0 : World) (hR : ∀ i, i < 64 → 0 ≤ R.getD i 0 ∧ R.getD i 0 ≤ 900) (hS : SubR R pre xs) (hL : L.length ≤ 1048576)
    (ho : w.ownsRow base 3 1 (.slice (some ⟨g, 0, none⟩) 64 c) 64 (intCells xs)) (hA : PArg w A L) (h0 : PArg w0 A L) (hg : w0.heap.size ≤ g) :
    Calls Tryz.prog 118 #[.slice (some ⟨g, 0, none⟩) 64 c, .slice A L.length cc, .int .i64 top] w (TakePost base g c R pre L top w) := by
  by_cases hl : 0 < L.length
  · exact impl_takeaway base g c cc A R pre L top xs w hR hS hL ho hA (parg_lt h0 hg hl)
  · have hn : L = [] := List.length_eq_zero_iff.1 (by omega)
    subst hn
    have ht : takeB R pre [] top = true := takeB_yes (fun j hj => absurd hj (by simp))
    clear hL hA h0 hl
    go_enter Tryz.func118, Tryz.ntmps118
    go_wp2_with fail
    go_loop [11] (fun i => i = .int .i64 0) (fun _ => 0)
    case atStart => rfl
    case round =>
      subst hrel
      go_wp2_with fail
      go_ret
      exact ⟨by rw [ht]; rfl, World.grownBy.refl w _, fun _ => ⟨xs, by simpa using hS, ho⟩⟩

set_option maxRecDepth 100000 in
set_option maxHeartbeats 4000000 in
theorem impl_refs (x : SA) (s : St) (w : World) (hl : s.sp.refs.length = 64) (hR : ∀ i, i < 64 → 0 ≤ s.sp.refs.getD i 0 ∧ s.sp.refs.getD i 0 ≤ 900) (ht : 1 ≤ s.txg ∧ s.txg ≤ 900) (hg : s.gone.length ≤ 1048576) (hd : s.dead.length ≤ 1048576) (hA : StAt w x s) :
    Calls Tryz.prog 95 #[(.agg #[.slice x.A s.rows.length x.a, .slice x.R s.sp.refs.length x.r, .slice x.L s.sp.last.length x.l, .int .i64 s.txg, .slice x.G s.gone.length x.g, .int .i64 s.keep, .slice x.D s.dead.length x.d, .bool s.same])] w fun r w' => r = .returned (.bool (refsB s)) ∧ Below w.heap.size w w' := by
  have b0 := B8.new w 38 (.slice x.A s.rows.length x.a) (.slice x.R s.sp.refs.length x.r) (.slice x.L s.sp.last.length x.l) (.int .i64 s.txg) (.slice x.G s.gone.length x.g) (.int .i64 s.keep) (.slice x.D s.dead.length x.d) (.bool s.same)
  have B0 := bel_new (Below.refl w.heap.size w) (.cells #[.slice x.A s.rows.length x.a, .slice x.R s.sp.refs.length x.r, .slice x.L s.sp.last.length x.l, .int .i64 s.txg, .slice x.G s.gone.length x.g, .int .i64 s.keep, .slice x.D s.dead.length x.d, .bool s.same] 38)
  have hC := clone_ints x.R x.r s.sp.refs _ (by omega) (hA.sp.1.below B0)
  have hT := fun base g c xs W (hW : Below w.heap.size w W) (hgw : w.heap.size ≤ g) h1 h2 => take_any base g c x.g x.G s.sp.refs [] s.gone (s.txg - 1) xs W w hR h1 hg h2 (hA.gone.below hW) hA.gone hgw
  have hU := fun base g c xs W (hW : Below w.heap.size w W) (hgw : w.heap.size ≤ g) h1 h2 => take_any base g c x.d x.D s.sp.refs s.gone s.dead s.keep xs W w hR h1 hd h2 (hA.dead.below hW) hA.dead hgw
  have hS0 := SubR.start hl (fun i hi => (hR i hi).1)
  obtain ⟨R, hRR⟩ : ∃ R, R = s.sp.refs := ⟨_, rfl⟩
  obtain ⟨t1, ht1⟩ : ∃ t, t = takeB s.sp.refs [] s.gone (s.txg - 1) := ⟨_, rfl⟩
  obtain ⟨t2, ht2⟩ : ∃ t, t = takeB s.sp.refs s.gone s.dead s.keep := ⟨_, rfl⟩
  unfold TakePost at hT hU
  unfold refsB
  rw [← ht1, ← ht2]
  rw [← ht1] at hT
  rw [← ht2] at hU
  have HL := Lib.hid hl
  rw [hl] at hC b0 B0 ⊢
  have HT := Lib.hid hT
  have HU := Lib.hid hU
  have HS0 := Lib.hid hS0
  clear hT hU hS0 hl hR hA ht1 ht2 hRR hg hd
  go_enter Tryz.func95, Tryz.ntmps95
  go_wp2_with (go_at_call 110; refine hC.mono ?_; rintro r w2 ⟨A2, c2, rfl, ho, hb2⟩; refine Hid.out ?_)
  refine Lib.hid ?_
  obtain ⟨g, rfl, hg1, hg2⟩ := own_pos ho (by decide)
  rw [World.size_alloc] at hg1
  have BB := bel_then B0 hb2
  have b2 := b0.below hb2
  have L := HT.out _ g c2 _ w2 BB (by omega) HS0.out ho
  obtain ⟨x0, x1, x2, x3, x4, x5, x6, x7⟩ := b2.cells
  clear hC B0 b0 hb2 HT HS0 ho
  have hbg : some w.heap.size ≠ some g := fun e => by injection e with e; omega
  cases t1 with
  | false =>
    go_wp2_with (go_at_call 118; refine L.mono ?_; rintro r w3 ⟨rfl, GB, _⟩)
    go_ret
    exact ⟨rfl, BB.grown GB (by omega) (fun b e => by injection e with e; omega)⟩
  | true =>
    go_wp2_with (go_at_call 118; refine L.mono ?_; rintro r w3 ⟨rfl, GB, hy⟩; refine Hid.out ?_)
    refine Lib.hid ?_
    obtain ⟨ys, hys, ho3⟩ := hy trivial
    have B3 := BB.grown GB (by omega) (fun b e => by injection e with e; omega)
    have b3 := b2.grown GB hbg
    have L2 := HU.out _ g c2 ys w3 B3 (by omega) (by simpa using hys) ho3
    clear L b2 BB x0 x1 x2 x3 x4 x5 x6 x7 hy hys ho3 HU
    obtain ⟨x0, x1, x2, x3, x4, x5, x6, x7⟩ := b3.cells
    go_wp2_with (go_at_call 118; refine L2.mono ?_; rintro r w4 ⟨rfl, GB2, _⟩)
    go_ret
    exact ⟨rfl, B3.grown GB2 B3.size (fun b e => by injection e with e; omega)⟩

end Go.Proofs.YtjmfefaoenmppaaGreatDoor

namespace Go.Proofs.YtjmfefaoenmppaaGreatDoor
open Go.RowKit

theorem txt_no {r : ByteArray} (h : r.size = 0) : (!r.toList.isEmpty) = false ∧ r.toList.isEmpty = true := by
  obtain ⟨⟨l⟩⟩ := r
  have hl : l.length = 0 := h
  have hn : l = [] := List.length_eq_zero_iff.1 hl
  subst hn
  rw [ByteArray.toList_eq]
  exact ⟨rfl, rfl⟩
theorem txt_yes {r : ByteArray} (h : r.size ≠ 0) : (!r.toList.isEmpty) = true ∧ r.toList.isEmpty = false := by
  obtain ⟨⟨l⟩⟩ := r
  have hl : l.length ≠ 0 := h
  rw [ByteArray.toList_eq]
  cases l with
  | nil => exact absurd rfl hl
  | cons a l => exact ⟨rfl, rfl⟩
def RowsTo (s : St) (k : Nat) : Prop := ∀ i, i < k → rowFit (s.rows.getD i b0) (s.sp.refs.getD i 0, s.sp.last.getD i 0) s.txg
def rowsB (s : St) : Bool := decide (s.rows.length = 64 ∧ RowsOk s)
theorem RowsTo.next {s : St} {k : Nat} (h : RowsTo s k) (hk : rowFit (s.rows.getD k b0) (s.sp.refs.getD k 0, s.sp.last.getD k 0) s.txg) : RowsTo s (k + 1) := fun i hi => by
  by_cases e : i = k
  · subst e; exact hk
  · exact h i (by omega)
theorem rowsB_yes {s : St} (h1 : s.rows.length = 64) (h : RowsTo s 64) : rowsB s = true := decide_eq_true ⟨h1, h⟩
theorem rowsB_no {s : St} {k : Nat} (hk : k < 64) (h : ¬ rowFit (s.rows.getD k b0) (s.sp.refs.getD k 0, s.sp.last.getD k 0) s.txg) : rowsB s = false := decide_eq_false (fun h2 => h (h2.2 k hk))
theorem rowsB_len {s : St} (h : s.rows.length ≠ 64) : rowsB s = false := decide_eq_false (fun h2 => h h2.1)

set_option maxRecDepth 100000 in
set_option maxHeartbeats 8000000 in
theorem impl_rows (x : SA) (s : St) (w : World) (hl : s.sp.refs.length = 64) (hl2 : s.sp.last.length = 64) (hR : ∀ i, i < 64 → 0 ≤ s.sp.refs.getD i 0 ∧ s.sp.refs.getD i 0 ≤ 900) (hn : s.rows.length ≤ 1048576) (ht : ∀ t ∈ s.rows, t.size ≤ maxLen) (hA : StAt w x s) :
    Calls Tryz.prog 94 #[(.agg #[.slice x.A s.rows.length x.a, .slice x.R s.sp.refs.length x.r, .slice x.L s.sp.last.length x.l, .int .i64 s.txg, .slice x.G s.gone.length x.g, .int .i64 s.keep, .slice x.D s.dead.length x.d, .bool s.same])] w fun r w' => r = .returned (.bool (rowsB s)) ∧ Below w.heap.size w w' := by
  obtain ⟨xA, xa, xR, xr, xL, xl, xG, xg, xD, xd⟩ := x
  dsimp only
  have b0 := B8.new w 38 (.slice xA s.rows.length xa) (.slice xR s.sp.refs.length xr) (.slice xL s.sp.last.length xl) (.int .i64 s.txg) (.slice xG s.gone.length xg) (.int .i64 s.keep) (.slice xD s.dead.length xd) (.bool s.same)
  have B0 := bel_new (Below.refl w.heap.size w) (.cells #[.slice xA s.rows.length xa, .slice xR s.sp.refs.length xr, .slice xL s.sp.last.length xl, .int .i64 s.txg, .slice xG s.gone.length xg, .int .i64 s.keep, .slice xD s.dead.length xd, .bool s.same] 38)
  by_cases h64 : s.rows.length = 64
  · have hyes := rowsB_yes h64
    have hno := fun k (hk : k < 64) => rowsB_no (s := s) hk
    have hat : ∀ k, k < 64 → s.rows.getD k Go.Proofs.YtjmfefaoenmppaaGreatDoor.b0 = s.rows.getD k Go.Proofs.YtjmfefaoenmppaaGreatDoor.b0 := fun _ _ => rfl
    have hA1 := hA.rows
    have hA2 := hA.sp
    obtain ⟨rs, hrs⟩ : ∃ rs, rs = s.sp.refs := ⟨_, rfl⟩
    obtain ⟨ls, hls⟩ : ∃ ls, ls = s.sp.last := ⟨_, rfl⟩
    obtain ⟨ts, hts⟩ : ∃ ts, ts = s.rows := ⟨_, rfl⟩
    have HF : Hid (∀ k, rowFit (s.rows.getD k Go.Proofs.YtjmfefaoenmppaaGreatDoor.b0) (s.sp.refs.getD k 0, s.sp.last.getD k 0) s.txg ↔ rowFit (ts.getD k Go.Proofs.YtjmfefaoenmppaaGreatDoor.b0) (rs.getD k 0, ls.getD k 0) s.txg) := Lib.hid (fun k => by rw [hrs, hls, hts])
    obtain ⟨q, hq⟩ : ∃ q, q = rowsB s := ⟨_, rfl⟩
    rw [← hq] at hyes hno
    rw [← hq]
    have HR := Lib.hid hR
    have HTX := Lib.hid ht
    have HY := Lib.hid hyes
    have HN := Lib.hid hno
    rw [hl, hl2, h64] at b0 B0 ⊢
    rw [← hrs] at hl
    rw [← hls] at hl2
    rw [← hts] at h64
    have H1 := Lib.hid hl
    have H2 := Lib.hid hl2
    have H3 := Lib.hid h64
    have HRS := Lib.hid hrs
    have HTS := Lib.hid hts
    have hA1 : Lies w xA (strCells ts) := by rw [hts]; exact hA.rows
    have hA3 : Lies w xR (intCells rs) := by rw [hrs]; exact hA.sp.1
    have hA4 : Lies w xL (intCells ls) := by rw [hls]; exact hA.sp.2
    have hq1 : ((64 : Int) != 64) = false := by decide
    clear hA hA2 hl hl2 h64 hrs hls hts hq hyes hno hat hR ht hn
    go_enter Tryz.func94, Tryz.ntmps94
    go_wp2_with fail
    go_loopw [3, 4, 5, 13] (fun _ _ _ i wr => ∃ k : Nat, k ≤ 64 ∧ i = .int .i64 k ∧ RowsTo s k ∧ Below w.heap.size w wr ∧ B8 wr w.heap.size 38 (.slice xA 64 xa) (.slice xR 64 xr) (.slice xL 64 xl) (.int .i64 s.txg) (.slice xG s.gone.length xg) (.int .i64 s.keep) (.slice xD s.dead.length xd) (.bool s.same)) (fun _ _ _ i _ => 64 - (intOf i).toNat)
    case atStart => exact ⟨0, by omega, rfl, fun j hj => absurd hj (Nat.not_lt_zero j), B0, b0⟩
    case round =>
      obtain ⟨k, hk, rfl, hj, hB, hb⟩ := hrel
      have HJ := Lib.hid hj
      clear b0 B0 hj
      have hwl := hb.lt
      obtain ⟨x0, x1, x2, x3, x4, x5, x6, x7⟩ := hb.cells
      by_cases hlt : k < 64
      · have hk1 : k < ts.length := by have := H3.out; omega
        have hk2 : k < rs.length := by have := H1.out; omega
        have hk3 : k < ls.length := by have := H2.out; omega
        obtain ⟨b1, o1, rfl, hl1, hc1⟩ := (hA1.below hB).str k hk1
        obtain ⟨b2, o2, rfl, hl2, hc2⟩ := (hA3.below hB).int k hk2
        obtain ⟨b3, o3, rfl, hl3, hc3⟩ := (hA4.below hB).int k hk3
        have hfit := HF.out k
        rw [List.getD_eq_getElem?_getD (l := ts), List.getD_eq_getElem?_getD (l := rs), List.getD_eq_getElem?_getD (l := ls), List.getElem?_eq_getElem hk1, List.getElem?_eq_getElem hk2, List.getElem?_eq_getElem hk3, Option.getD_some, Option.getD_some, Option.getD_some] at hfit
        have htz : ts[k].size ≤ maxLen := HTX.out _ (by have := HTS.out; subst this; exact List.getElem_mem hk1)
        have hy9 : 0 ≤ rs[k] := by
          have := (HR.out k hlt).1
          have h2 := HRS.out
          subst h2
          rwa [List.getD_eq_getElem?_getD, List.getElem?_eq_getElem hk2, Option.getD_some] at this
        obtain ⟨t, ht⟩ : ∃ t, t = ts[k] := ⟨_, rfl⟩
        obtain ⟨y, hy⟩ : ∃ y, y = rs[k] := ⟨_, rfl⟩
        obtain ⟨z, hz⟩ : ∃ z, z = ls[k] := ⟨_, rfl⟩
        rw [← ht] at hfit hc1 htz
        rw [← hy] at hfit hc2 hy9
        rw [← hz] at hfit hc3
        have HFT := Lib.hid hfit
        have hki : (k : Int) < 64 := by omega
        unfold maxLen at htz
        clear ht hy hz hfit hA1 hA3 hA4 hk1 hk2 hk3
        have yes : rowFit t (y, z) s.txg → Hid (RowsTo s (k + 1)) := fun h => Lib.hid (HJ.out.next (HFT.out.2 h))
        have no : ¬ rowFit t (y, z) s.txg → Hid (q = false) := fun h => Lib.hid (HN.out k hlt (fun h2 => h (HFT.out.1 h2)))
        have ddT : ((true : Bool) != true) = false := rfl
        have ddF : ((false : Bool) != false) = false := rfl
        have dTF : ((true : Bool) != false) = true := rfl
        have dFT : ((false : Bool) != true) = true := rfl
        by_cases hs0 : t.size = 0
        · obtain ⟨e1, e2⟩ := txt_no hs0
          by_cases hy0 : 0 < y
          · have HQ := no (fun h => by have := h.2.1.1 hs0; omega)
            have d1 : decide (0 < y) = true := by simpa using hy0
            clear yes no
            go_wp2_with fail
            go_quiet (fail)
            go_wp2_with fail
            go_ret
            exact ⟨by rw [HQ.out]; rfl, below_drewN hB _⟩
          · have d1 : decide (0 < y) = false := by simpa using hy0
            have hz0 : ¬ 128 < t.size := by omega
            have hz1 : ¬ (128 : Int) < (t.size : Int) := by omega
            have d2 : decide (128 < (t.size : Int)) = false := by simpa using hz1
            by_cases hzz : z ≤ s.txg
            · have HOK := yes (by refine ⟨by omega, by omega, hzz⟩)
              have d3 : decide (s.txg < z) = false := by simpa using hzz
              have d4 : ¬ s.txg < z := by omega
              clear yes no
              go_wp2_with fail
              go_quiet (fail)
              go_wp2_with fail
              go_roundw
              case rel => exact ⟨k + 1, by omega, by go_num, HOK.out, below_drewN hB _, hb⟩
              case measure => simp [intOf]; omega
            · have HQ := no (fun h => hzz h.2.2)
              have d3 : decide (s.txg < z) = true := by simp; omega
              have d4 : s.txg < z := by omega
              clear yes no hzz
              go_wp2_with fail
              go_quiet (fail)
              go_wp2_with fail
              go_ret
              exact ⟨by rw [HQ.out]; rfl, below_drewN hB _⟩
        · obtain ⟨e1, e2⟩ := txt_yes hs0
          by_cases hy0 : 0 < y
          · have d1 : decide (0 < y) = true := by simpa using hy0
            by_cases hbig : 128 < t.size
            · have HQ := no (fun h => by have := h.1; omega)
              have hz1 : (128 : Int) < (t.size : Int) := by omega
              have d2 : decide (128 < (t.size : Int)) = true := by simpa using hz1
              clear yes no
              go_wp2_with fail
              go_quiet (fail)
              go_wp2_with fail
              go_ret
              exact ⟨by rw [HQ.out]; rfl, below_drewN hB _⟩
            · have hz1 : ¬ (128 : Int) < (t.size : Int) := by omega
              have d2 : decide (128 < (t.size : Int)) = false := by simpa using hz1
              by_cases hzz : z ≤ s.txg
              · have HOK := yes (by refine ⟨by omega, by simp only; omega, hzz⟩)
                have d3 : decide (s.txg < z) = false := by simpa using hzz
                have d4 : ¬ s.txg < z := by omega
                clear yes no
                go_wp2_with fail
                go_quiet (fail)
                go_wp2_with fail
                go_roundw
                case rel => exact ⟨k + 1, by omega, by go_num, HOK.out, below_drewN hB _, hb⟩
                case measure => simp [intOf]; omega
              · have HQ := no (fun h => hzz h.2.2)
                have d3 : decide (s.txg < z) = true := by simp; omega
                have d4 : s.txg < z := by omega
                clear yes no hzz
                go_wp2_with fail
                go_quiet (fail)
                go_wp2_with fail
                go_ret
                exact ⟨by rw [HQ.out]; rfl, below_drewN hB _⟩
          · have HQ := no (fun h => hs0 (h.2.1.2 (by simp only; omega)))
            have d1 : decide (0 < y) = false := by simpa using hy0
            clear yes no
            go_wp2_with fail
            go_quiet (fail)
            go_wp2_with fail
            go_ret
            exact ⟨by rw [HQ.out]; rfl, below_drewN hB _⟩
      · have hke : k = 64 := by omega
        subst hke
        have HYY := Lib.hid (HY.out HJ.out)
        go_wp2_with fail
        go_ret
        exact ⟨by rw [HYY.out]; rfl, hB⟩
  · have hno := rowsB_len h64
    have hq1 : ((s.rows.length : Int) != 64) = true := by simp; omega
    rw [hno]
    clear hno h64 hA hn ht hR hl hl2
    go_enter Tryz.func94, Tryz.ntmps94
    go_wp2_with fail
    go_ret
    exact ⟨rfl, B0⟩
end Go.Proofs.YtjmfefaoenmppaaGreatDoor

namespace Go.Proofs.YtjmfefaoenmppaaGreatDoor
open Go.RowKit

theorem okSt_parts (s : St) : okSt s = (inB s.txg 1 900 && (inB s.keep 0 (s.txg - 1) && (okS s.sp && (rowsB s && refsB s)))) := by
  rw [Bool.eq_iff_iff]
  simp only [okSt, inB, okS, rowsB, refsB, takeB, Bool.and_eq_true, decide_eq_true_eq]
  constructor
  · intro h
    exact ⟨h.txg, h.keep, h.sp, ⟨h.len, h.rows⟩, h.gone, h.dead⟩
  · rintro ⟨h1, h2, h3, ⟨h4, h5⟩, h6, h7⟩
    exact ⟨h4, h3, h1, h2, h5, h6, h7⟩
theorem sp_bd {s : Sp} (h : SpOk s) : ∀ i, i < 64 → 0 ≤ s.refs.getD i 0 ∧ s.refs.getD i 0 ≤ 900 := fun i hi => by
  have := h.2.2 i hi
  rw [usOf_at h.1 h.2.1 i hi] at this
  unfold rowOk at this
  simp only at this
  omega

set_option maxRecDepth 100000 in
set_option maxHeartbeats 4000000 in
theorem impl_mok (x : SA) (s : St) (w : World) (hs : SBulk s) (hA : StAt w x s) : Calls Tryz.prog 76 #[(.agg #[.slice x.A s.rows.length x.a, .slice x.R s.sp.refs.length x.r, .slice x.L s.sp.last.length x.l, .int .i64 s.txg, .slice x.G s.gone.length x.g, .int .i64 s.keep, .slice x.D s.dead.length x.d, .bool s.same])] w fun r w' => r = .returned (.bool (okSt s)) ∧ Below w.heap.size w w' := by
  rw [okSt_parts]
  have b0 := B8.new w 38 (.slice x.A s.rows.length x.a) (.slice x.R s.sp.refs.length x.r) (.slice x.L s.sp.last.length x.l) (.int .i64 s.txg) (.slice x.G s.gone.length x.g) (.int .i64 s.keep) (.slice x.D s.dead.length x.d) (.bool s.same)
  have B0 := bel_new (Below.refl w.heap.size w) (.cells #[.slice x.A s.rows.length x.a, .slice x.R s.sp.refs.length x.r, .slice x.L s.sp.last.length x.l, .int .i64 s.txg, .slice x.G s.gone.length x.g, .int .i64 s.keep, .slice x.D s.dead.length x.d, .bool s.same] 38)
  have h1 := fun W => i_in s.txg 1 900 W
  have h2 := fun W => i_in s.keep 0 (s.txg - 1) W
  have h3 := impl_ok x.R x.L x.r x.l s.sp _ hs.refs hs.last (hA.sp.below B0)
  have hk := hs.keep
  cases e1 : inB s.txg 1 900 with
  | false =>
    rw [e1] at h1
    clear h2 h3 hs hA hk e1
    go_enter Tryz.func76, Tryz.ntmps76
    go_wp2_with (go_at_call 56; refine (h1 _).mono ?_; rintro r w2 ⟨rfl, rfl⟩)
    go_ret
    exact ⟨rfl, B0⟩
  | true =>
    rw [e1] at h1
    have ht := inB_iff.1 e1
    cases e2 : inB s.keep 0 (s.txg - 1) with
    | false =>
      rw [e2] at h2
      clear h3 hs hA hk e1 e2
      go_enter Tryz.func76, Tryz.ntmps76
      go_wp2_with (first | (go_at_call 56; ((with_reducible refine (h1 _).mono ?_); rintro r w2 ⟨rfl, rfl⟩)) | (go_at_call 56; refine (h2 _).mono ?_; rintro r w2 ⟨rfl, rfl⟩))
      go_ret
      exact ⟨rfl, B0⟩
    | true =>
      rw [e2] at h2
      cases e3 : okS s.sp with
      | false =>
        rw [e3] at h3
        clear hs hA hk e1 e2 e3
        go_enter Tryz.func76, Tryz.ntmps76
        go_wp2_with (first | (go_at_call 56; ((with_reducible refine (h1 _).mono ?_); rintro r w2 ⟨rfl, rfl⟩)) | (go_at_call 56; refine (h2 _).mono ?_; rintro r w2 ⟨rfl, rfl⟩) | (go_at_call 93; refine h3.mono ?_; rintro r w2 ⟨rfl, hb2⟩))
        go_ret
        exact ⟨rfl, bel_then B0 hb2⟩
      | true =>
        rw [e3] at h3
        have hsp : SpOk s.sp := of_decide_eq_true e3
        have h4 := fun W (hW : Below w.heap.size w W) => impl_rows x s W hsp.1 hsp.2.1 (sp_bd hsp) hs.rows hs.texts (hA.below hW)
        have h5 := fun W (hW : Below w.heap.size w W) => impl_refs x s W hsp.1 (sp_bd hsp) ht hs.gone hs.dead (hA.below hW)
        clear hk e1 e2 e3 hsp hs hA
        go_enter Tryz.func76, Tryz.ntmps76
        go_wp2_with (first | (go_at_call 56; ((with_reducible refine (h1 _).mono ?_); rintro r w2 ⟨rfl, rfl⟩)) | (go_at_call 56; refine (h2 _).mono ?_; rintro r w2 ⟨rfl, rfl⟩) | (go_at_call 93; refine h3.mono ?_; rintro r w2 ⟨rfl, hb2⟩; refine Hid.out ?_))
        refine Lib.hid ?_
        have b2 := b0.below hb2
        have B2 := bel_then B0 hb2
        have L := h4 w2 B2
        obtain ⟨x0, x1, x2, x3, x4, x5, x6, x7⟩ := b2.cells
        clear h1 h2 h3 h4 b0 B0 hb2
        cases e4 : rowsB s with
        | false =>
          rw [e4] at L
          have HE4 := Lib.hid e4
          clear e4 h5
          go_wp2_with (go_at_call 94; refine L.mono ?_; rintro r w3 ⟨rfl, hb3⟩)
          go_ret
          exact ⟨by rw [HE4.out]; rfl, bel_then B2 hb3⟩
        | true =>
          rw [e4] at L
          have HE4 := Lib.hid e4
          clear e4
          go_wp2_with (go_at_call 94; refine L.mono ?_; rintro r w3 ⟨rfl, hb3⟩; refine Hid.out ?_)
          refine Lib.hid ?_
          have b3 := b2.below hb3
          have B3 := bel_then B2 hb3
          have L2 := h5 w3 B3
          clear L b2 B2 hb3 h5 x0 x1 x2 x3 x4 x5 x6 x7
          obtain ⟨x0, x1, x2, x3, x4, x5, x6, x7⟩ := b3.cells
          go_wp2_with (go_at_call 95; refine L2.mono ?_; rintro r w4 ⟨rfl, hb4⟩)
          go_ret
          exact ⟨by rw [HE4.out]; rfl, bel_then B3 hb4⟩

end Go.Proofs.YtjmfefaoenmppaaGreatDoor

namespace Go.Proofs.YtjmfefaoenmppaaGreatDoor
open Go.RowKit

theorem s_in' (n lo hi : Int) (b : Bool) (h : inB n lo hi = b) (w : World) : Calls Tryz.prog 54 #[.int .i64 n, .int .i64 lo, .int .i64 hi] w fun e w' => e = .returned (.bool b) ∧ w' = w := (s_in n lo hi w).mono fun _ _ ⟨h1, h2⟩ => ⟨by rw [h1, h], h2.symm⟩
theorem s_row' (n : Int) (b : Bool) (h : inB n 8 63 = b) (w : World) : Calls Tryz.prog 91 #[.int .i64 n] w fun e w' => e = .returned (.bool b) ∧ w' = w := (s_row n w).mono fun _ _ ⟨h1, h2⟩ => ⟨by rw [h1, h], h2.symm⟩

set_option maxRecDepth 100000 in
set_option maxHeartbeats 8000000 in
theorem spec_ok (A B : Option Addr) (c e : Nat) (s : Sp) (w : World) (hn : s.refs.length ≤ 1048576) (hm : s.last.length ≤ 1048576) (hA : SpAt w A B s) :
    Calls Tryz.prog 70 #[.agg #[.slice A s.refs.length c, .slice B s.last.length e]] w fun r w' => r = .returned (.bool (okS s)) ∧ Below w.heap.size w w' := by
  by_cases h1 : s.refs.length = 64
  · by_cases h2 : s.last.length = 64
    · obtain ⟨hA1, hA2⟩ := hA
      have hq1 : ((64 : Int) != 64) = false := by decide
      have hyes : (∀ i, i < 64 → rowOk i ((usOf s).getD i (0, 0))) → okS s = true := fun h => okS_yes ⟨h1, h2, h⟩
      have hno : ∀ i, i < 64 → ¬ rowOk i ((usOf s).getD i (0, 0)) → okS s = false := fun i hi h => okS_no (fun h3 => h (h3.2.2 i hi))
      have hat : ∀ k, k < 64 → (usOf s).getD k (0, 0) = (s.refs.getD k 0, s.last.getD k 0) := fun k hk => usOf_at h1 h2 k hk
      obtain ⟨rs, hrs⟩ : ∃ rs, rs = s.refs := ⟨_, rfl⟩
      obtain ⟨ls, hls⟩ : ∃ ls, ls = s.last := ⟨_, rfl⟩
      obtain ⟨U, hUU⟩ : ∃ U, U = usOf s := ⟨_, rfl⟩
      obtain ⟨q, hq⟩ : ∃ q, q = okS s := ⟨_, rfl⟩
      rw [← hUU, ← hq] at hyes
      rw [← hUU, ← hq] at hno
      rw [← hUU, ← hrs, ← hls] at hat
      rw [← hrs] at hA1 h1
      rw [← hls] at hA2 h2
      rw [← hrs, ← hls, ← hq]
      clear hn hm hrs hls hUU hq
      have HAT := Lib.hid hat
      have HY := Lib.hid hyes
      have HNO := Lib.hid hno
      have H1 := Lib.hid h1
      have H2 := Lib.hid h2
      rw [h1, h2]
      clear hat hyes hno h1 h2
      have b0 := B2.new w 35 (.slice A 64 c) (.slice B 64 e)
      go_enter Tryz.func70, Tryz.ntmps70
      go_wp2
      go_loopw [3] (fun i wr => ∃ k : Nat, k ≤ 64 ∧ i = .int .i64 k ∧ (∀ j, j < k → rowOk j (U.getD j (0, 0))) ∧ Below w.heap.size w wr ∧ B2 wr w.heap.size 35 (.slice A 64 c) (.slice B 64 e)) (fun i _ => 64 - (intOf i).toNat)
      case atStart => exact ⟨0, by omega, rfl, fun j hj => absurd hj (Nat.not_lt_zero j), bel_new (Below.refl _ _) _, b0⟩
      case round =>
        obtain ⟨k, hk, rfl, hj, hB, hb⟩ := hrel
        have HJ := Lib.hid hj
        clear b0 hj
        by_cases hlt : k < 64
        · obtain ⟨b1, o1, rfl, hl1, hc1⟩ := (hA1.below hB).int k (by have := H1.out; omega)
          obtain ⟨b2, o2, rfl, hl2, hc2⟩ := (hA2.below hB).int k (by have := H2.out; omega)
          have hu := HAT.out k hlt
          rw [List.getD_eq_getElem?_getD, List.getD_eq_getElem?_getD, List.getD_eq_getElem?_getD, List.getElem?_eq_getElem (by have := H1.out; omega : k < rs.length), List.getElem?_eq_getElem (by have := H2.out; omega : k < ls.length)] at hu
          obtain ⟨x, hx⟩ : ∃ x, x = rs[k]'(by have := H1.out; omega) := ⟨_, rfl⟩
          obtain ⟨y, hy⟩ : ∃ y, y = ls[k]'(by have := H2.out; omega) := ⟨_, rfl⟩
          rw [← hx] at hc1
          rw [← hy] at hc2
          simp only [← hx, ← hy, Option.getD_some] at hu
          have hu2 : U.getD k (0, 0) = (x, y) := by rw [List.getD_eq_getElem?_getD]; exact hu
          have hro : rowOk k (U.getD k (0, 0)) ↔ ((x = 0 ∧ y = 0) ∨ (8 ≤ k ∧ 1 ≤ x ∧ x ≤ y ∧ y ≤ 900)) := by rw [hu2]; exact Iff.rfl
          have hwl := hb.lt
          obtain ⟨⟨x0, x1⟩, _, _⟩ := hb.cells
          have hlt' : (k : Int) < 64 := by omega
          have HR := Lib.hid hro
          clear hx hy hu hu2 hA1 hA2 hro
          by_cases ha : inB y 0 900 = true
          · have hy9 : 0 ≤ y ∧ y ≤ 900 := by simpa [inB] using ha
            have hS := fun w => s_in' y 0 900 true ha w
            by_cases hbb : inB x 0 y = true
            · have hx9 : 0 ≤ x ∧ x ≤ y := by simpa [inB] using hbb
              have hT := fun w => s_in' x 0 y true hbb w
              by_cases hz : x = 0
              · have hz1 : (x == 0) = true := by simpa using hz
                by_cases hyz : y = 0
                · have hz2 : (y != 0) = false := by simpa using hyz
                  have hz3 : ¬ 0 < x := by omega
                  have hz4 : decide (0 < x) = false := by simpa using hz3
                  have hok : rowOk k (U.getD k (0, 0)) := HR.out.2 (.inl ⟨hz, hyz⟩)
                  have HO := Lib.hid hok
                  by_cases hrw : inB (k : Int) 8 63 = true
                  · have hR := fun w => s_row' (k : Int) true hrw w
                    clear hz hyz hok hy9 hx9 ha hbb hrw
                    go_wp2_with fail
                    go_quiet ((first | (go_at_call 54; with_reducible exact Calls.quiet_of_same (hS _)) | (go_at_call 54; exact Calls.quiet_of_same (hT _)) | (go_at_call 91; exact Calls.quiet_of_same (hR _))))
                    go_wp2_with fail
                    go_roundw
                    case rel => exact ⟨k + 1, by omega, by go_num, fun j hj => by
                      rcases Nat.lt_succ_iff_lt_or_eq.1 hj with h | h
                      · exact HJ.out j h
                      · rw [h]; exact HO.out, below_drewN hB _, hb⟩
                    case measure => simp [intOf]; omega
                  · have hrw2 : inB (k : Int) 8 63 = false := by simpa using hrw
                    have hR := fun w => s_row' (k : Int) false hrw2 w
                    clear hz hyz hok hy9 hx9 ha hbb hrw hrw2
                    go_wp2_with fail
                    go_quiet ((first | (go_at_call 54; with_reducible exact Calls.quiet_of_same (hS _)) | (go_at_call 54; exact Calls.quiet_of_same (hT _)) | (go_at_call 91; exact Calls.quiet_of_same (hR _))))
                    go_wp2_with fail
                    go_roundw
                    case rel => exact ⟨k + 1, by omega, by go_num, fun j hj => by
                      rcases Nat.lt_succ_iff_lt_or_eq.1 hj with h | h
                      · exact HJ.out j h
                      · rw [h]; exact HO.out, below_drewN hB _, hb⟩
                    case measure => simp [intOf]; omega
                · have hz2 : (y != 0) = true := by simpa using hyz
                  have hbad : ¬ rowOk k (U.getD k (0, 0)) := fun h => by rcases HR.out.1 h with h | h <;> omega
                  have HQ := Lib.hid (HNO.out k hlt hbad)
                  clear hz hyz hbad hy9 hx9 ha hbb
                  go_wp2_with fail
                  go_quiet ((first | (go_at_call 54; with_reducible exact Calls.quiet_of_same (hS _)) | (go_at_call 54; exact Calls.quiet_of_same (hT _)) | (go_at_call 91; exact Calls.quiet_of_same (hR _))))
                  go_wp2_with fail
                  go_ret
                  exact ⟨by rw [HQ.out]; rfl, below_drewN hB _⟩
              · have hz1 : (x == 0) = false := by simpa using hz
                have hz3 : 0 < x := by omega
                have hz4 : decide (0 < x) = true := by simpa using hz3
                by_cases hrw : inB (k : Int) 8 63 = true
                · have hr9 : 8 ≤ (k : Int) ∧ (k : Int) ≤ 63 := by simpa [inB] using hrw
                  have hok : rowOk k (U.getD k (0, 0)) := HR.out.2 (.inr ⟨by omega, by omega, by omega, by omega⟩)
                  have HO := Lib.hid hok
                  have hR := fun w => s_row' (k : Int) true hrw w
                  clear hz hok hy9 hx9 ha hbb hrw hr9
                  go_wp2_with fail
                  go_quiet ((first | (go_at_call 54; with_reducible exact Calls.quiet_of_same (hS _)) | (go_at_call 54; exact Calls.quiet_of_same (hT _)) | (go_at_call 91; exact Calls.quiet_of_same (hR _))))
                  go_wp2_with fail
                  go_roundw
                  case rel => exact ⟨k + 1, by omega, by go_num, fun j hj => by
                    rcases Nat.lt_succ_iff_lt_or_eq.1 hj with h | h
                    · exact HJ.out j h
                    · rw [h]; exact HO.out, below_drewN hB _, hb⟩
                  case measure => simp [intOf]; omega
                · have hrw2 : inB (k : Int) 8 63 = false := by simpa using hrw
                  have hr9 : ¬ (8 ≤ (k : Int) ∧ (k : Int) ≤ 63) := by simpa [inB] using hrw
                  have hR := fun w => s_row' (k : Int) false hrw2 w
                  have hbad : ¬ rowOk k (U.getD k (0, 0)) := fun h => by rcases HR.out.1 h with h | h <;> omega
                  have HQ := Lib.hid (HNO.out k hlt hbad)
                  clear hz hbad hy9 hx9 ha hbb hrw hrw2 hr9
                  go_wp2_with fail
                  go_quiet ((first | (go_at_call 54; with_reducible exact Calls.quiet_of_same (hS _)) | (go_at_call 54; exact Calls.quiet_of_same (hT _)) | (go_at_call 91; exact Calls.quiet_of_same (hR _))))
                  go_wp2_with fail
                  go_ret
                  exact ⟨by rw [HQ.out]; rfl, below_drewN hB _⟩
            · have hbb2 : inB x 0 y = false := by simpa using hbb
              have hx9 : ¬ (0 ≤ x ∧ x ≤ y) := by simpa [inB] using hbb
              have hT := fun w => s_in' x 0 y false hbb2 w
              have hbad : ¬ rowOk k (U.getD k (0, 0)) := fun h => by rcases HR.out.1 h with h | h <;> omega
              have HQ := Lib.hid (HNO.out k hlt hbad)
              clear hbad hy9 hx9 ha hbb hbb2
              go_wp2_with fail
              go_quiet ((first | (go_at_call 54; with_reducible exact Calls.quiet_of_same (hS _)) | (go_at_call 54; exact Calls.quiet_of_same (hT _)) | (go_at_call 91; exact Calls.quiet_of_same (hR _))))
              go_wp2_with fail
              go_ret
              exact ⟨by rw [HQ.out]; rfl, below_drewN hB _⟩
          · have ha2 : inB y 0 900 = false := by simpa using ha
            have hbad : ¬ rowOk k (U.getD k (0, 0)) := fun h => by
              have h9 : ¬ (0 ≤ y ∧ y ≤ 900) := by simpa [inB] using ha
              rcases HR.out.1 h with h | h <;> omega
            have hqf := HNO.out k hlt hbad
            have HQ := Lib.hid hqf
            clear hbad hqf ha
            have hS := fun w => s_in' y 0 900 false ha2 w
            clear ha2
            go_wp2_with fail
            go_quiet ((go_at_call 54; exact Calls.quiet_of_same (hS _)))
            go_wp2_with fail
            go_ret
            exact ⟨by rw [HQ.out]; rfl, below_drewN hB _⟩
        · have hke : k = 64 := by omega
          subst hke
          go_wp2_with fail
          go_ret
          exact ⟨by rw [HY.out HJ.out]; rfl, hB⟩
    · have hno : okS s = false := okS_no fun h => h2 h.2.1
      have hq1 : ((64 : Int) != 64) = false := by decide
      have hq2 : ((s.last.length : Int) != 64) = true := by simp; omega
      rw [h1, hno]
      clear hno h1 h2 hA hn hm
      go_enter Tryz.func70, Tryz.ntmps70
      go_wp2_with fail
      go_ret
      exact ⟨rfl, bel_new (Below.refl _ _) _⟩
  · have hno : okS s = false := okS_no fun h => h1 h.1
    have hq1 : ((s.refs.length : Int) != 64) = true := by simp; omega
    rw [hno]
    clear hno h1 hA hn hm
    go_enter Tryz.func70, Tryz.ntmps70
    go_wp2_with fail
    go_ret
    exact ⟨rfl, bel_new (Below.refl _ _) _⟩
end Go.Proofs.YtjmfefaoenmppaaGreatDoor

namespace Go.Proofs.YtjmfefaoenmppaaGreatDoor
open Go.RowKit

/-- The first k pointers of both lists. -/
def topAt (s : St) (j : Nat) : Int := if j < s.gone.length then s.txg - 1 else s.keep
def AllTo (s : St) (k : Nat) : Prop := ∀ j, j < k → okAt s.sp.refs ((s.gone ++ s.dead).take j) (topAt s j) ((s.gone ++ s.dead).getD j P5.zero)
theorem AllTo.next {s : St} {k : Nat} (h : AllTo s k) (hk : okAt s.sp.refs ((s.gone ++ s.dead).take k) (topAt s k) ((s.gone ++ s.dead).getD k P5.zero)) : AllTo s (k + 1) := fun j hj => by
  by_cases e : j = k
  · subst e; exact hk
  · exact h j (by omega)
theorem refsB_iff (s : St) : refsB s = true ↔ AllTo s (s.gone.length + s.dead.length) := by
  simp only [refsB, takeB, Bool.and_eq_true, decide_eq_true_eq]
  constructor
  · rintro ⟨h1, h2⟩ j hj
    unfold topAt
    by_cases hl : j < s.gone.length
    · rw [if_pos hl, List.take_append_of_le_length (by omega), List.getD_eq_getElem?_getD, List.getElem?_append_left hl, ← List.getD_eq_getElem?_getD]
      exact h1 j hl
    · rw [if_neg hl, List.getD_eq_getElem?_getD, List.getElem?_append_right (by omega), ← List.getD_eq_getElem?_getD]
      have := h2 (j - s.gone.length) (by omega)
      rwa [show s.gone ++ s.dead.take (j - s.gone.length) = (s.gone ++ s.dead).take j by rw [List.take_append, List.take_of_length_le (by omega : s.gone.length ≤ j)]] at this
  · intro h
    refine ⟨fun j hj => ?_, fun j hj => ?_⟩
    · have := h j (by omega)
      unfold topAt at this
      rwa [if_pos hj, List.take_append_of_le_length (by omega), List.getD_eq_getElem?_getD, List.getElem?_append_left hj, ← List.getD_eq_getElem?_getD] at this
    · have := h (s.gone.length + j) (by omega)
      unfold topAt at this
      rwa [if_neg (by omega), List.getD_eq_getElem?_getD, List.getElem?_append_right (by omega), ← List.getD_eq_getElem?_getD, Nat.add_sub_cancel_left, List.take_append, List.take_of_length_le (by omega : s.gone.length ≤ s.gone.length + j), Nat.add_sub_cancel_left] at this
/-- A row of the counts of some pointers. -/
structure CntR (pre : List P5) (ys : List Int) : Prop where
  len : ys.length = 64
  at_ : ∀ i, i < 64 → ys.getD i 0 = ((cntAt pre (i : Int) : Nat) : Int)
theorem CntR.start : CntR [] (List.replicate 64 0) := ⟨by simp, fun i hi => by rw [List.getD_eq_getElem?_getD, List.getElem?_replicate, if_pos hi]; rfl⟩
theorem CntR.next {pre : List P5} {ys : List Int} {p : P5} {n : Nat} (h : CntR pre ys) (hn : n < 64) (hp : p.a = (n : Int)) : CntR (pre ++ [p]) (ys.set n (ys.getD n 0 + 1)) := by
  refine ⟨by rw [List.length_set]; exact h.len, fun i hi => ?_⟩
  rw [cntAt_snoc, hp]
  by_cases e : n = i
  · subst e
    rw [getD_set_same (by rw [h.len]; exact hn), h.at_ n hn, if_pos rfl]
    omega
  · rw [getD_set_other e, h.at_ i hi, if_neg (by omega)]
    omega
theorem refs_low {s : Sp} (h : SpOk s) : s.refs.getD 0 0 = 0 := by
  have := h.2.2 0 (by decide)
  rw [usOf_at h.1 h.2.1 0 (by decide)] at this
  unfold rowOk at this
  simp only at this
  omega
theorem own_four {W : World} {base n : Nat} {v : Value} {xs : List Int} {o1 o2 o3 o4 : Obj} {N : Nat} (h : W.ownsRow base 3 1 v n (intCells xs)) : (((((W.alloc o1).alloc o2).alloc o3).alloc o4).drewN N).ownsRow base 3 1 v n (intCells xs) :=
  own_bel h (below_drewN (bel_new (bel_new (bel_new (bel_new (Below.refl _ _) _) _) _) _) N)
theorem z64_own (W : World) : (W.alloc (.cells z64 3)).ownsRow W.heap.size 3 1 (.slice (some ⟨W.heap.size, 0, none⟩) 64 64) 64 (intCells (List.replicate 64 0)) := own_z64 W

set_option maxRecDepth 100000 in
set_option maxHeartbeats 16000000 in
theorem spec_sok (x : SA) (s : St) (w : World) (hs : SBulk s) (hA : StAt w x s) : Calls Tryz.prog 40 #[(.agg #[.slice x.A s.rows.length x.a, .slice x.R s.sp.refs.length x.r, .slice x.L s.sp.last.length x.l, .int .i64 s.txg, .slice x.G s.gone.length x.g, .int .i64 s.keep, .slice x.D s.dead.length x.d, .bool s.same])] w fun r w' => r = .returned (.bool (okSt s)) ∧ Below w.heap.size w w' := by
  have b0 := B8.new w 38 (.slice x.A s.rows.length x.a) (.slice x.R s.sp.refs.length x.r) (.slice x.L s.sp.last.length x.l) (.int .i64 s.txg) (.slice x.G s.gone.length x.g) (.int .i64 s.keep) (.slice x.D s.dead.length x.d) (.bool s.same)
  have B0 := bel_new (Below.refl w.heap.size w) (.cells #[.slice x.A s.rows.length x.a, .slice x.R s.sp.refs.length x.r, .slice x.L s.sp.last.length x.l, .int .i64 s.txg, .slice x.G s.gone.length x.g, .int .i64 s.keep, .slice x.D s.dead.length x.d, .bool s.same] 38)
  have h3 := spec_ok x.R x.L x.r x.l s.sp _ hs.refs hs.last (hA.sp.below B0)
  have h1 := fun W => s_in s.txg 1 900 W
  have h2 := fun W => s_in s.keep 0 (s.txg - 1) W
  have hkw := hs.keep
  by_cases h64 : s.rows.length = 64
  · have hq1 : ((64 : Int) != 64) = false := by decide
    rw [h64] at b0 B0 h3 ⊢
    cases e3 : okS s.sp with
    | false =>
      rw [okSt_parts, e3]
      rw [e3] at h3
      clear h1 h2 hs hA hkw e3 h64
      go_enter Tryz.func40, Tryz.ntmps40
      go_wp2_with (go_at_call 70; refine h3.mono ?_; rintro r w2 ⟨rfl, hb2⟩)
      go_ret
      exact ⟨by simp, bel_then B0 hb2⟩
    | true =>
      rw [e3] at h3
      have hsp : SpOk s.sp := of_decide_eq_true e3
      cases e1 : inB s.txg 1 900 with
      | false =>
        rw [okSt_parts, e1]
        rw [e1] at h1
        clear h2 hs hA hkw e1 e3 h64 hsp
        go_enter Tryz.func40, Tryz.ntmps40
        go_wp2_with (first | (go_at_call 70; refine h3.mono ?_; rintro r w2 ⟨rfl, hb2⟩; obtain ⟨x0, x1, x2, x3, x4, x5, x6, x7⟩ := (b0.below hb2).cells) | (go_at_call 54; refine (h1 _).mono ?_; rintro r w3 ⟨rfl, rfl⟩))
        go_ret
        exact ⟨rfl, bel_then B0 hb2⟩
      | true =>
        rw [e1] at h1
        have ht := inB_iff.1 e1
        cases e2 : inB s.keep 0 (s.txg - 1) with
        | false =>
          rw [okSt_parts, e1, e2]
          rw [e2] at h2
          clear hs hA hkw e1 e2 e3 h64 hsp
          go_enter Tryz.func40, Tryz.ntmps40
          go_wp2_with (first | (go_at_call 70; refine h3.mono ?_; rintro r w2 ⟨rfl, hb2⟩; obtain ⟨x0, x1, x2, x3, x4, x5, x6, x7⟩ := (b0.below hb2).cells) | (go_at_call 54; ((with_reducible refine (h1 _).mono ?_); rintro r w3 ⟨rfl, rfl⟩)) | (go_at_call 54; refine (h2 _).mono ?_; rintro r w3 ⟨rfl, rfl⟩))
          go_ret
          exact ⟨rfl, bel_then B0 hb2⟩
        | true =>
          rw [e2] at h2
          have hk9 := inB_iff.1 e2
          have hparts : okSt s = (rowsB s && refsB s) := by rw [okSt_parts, e1, e2, e3]; rfl
          rw [hparts]
          have hyes := rowsB_yes h64
          have hno := fun k (hk : k < 64) => rowsB_no (s := s) hk
          obtain ⟨xA, xa, xR, xr, xL, xl, xG, xg, xD, xd⟩ := x
          dsimp only at b0 B0 h3 ⊢
          obtain ⟨rs, hrs⟩ : ∃ rs, rs = s.sp.refs := ⟨_, rfl⟩
          obtain ⟨ls, hls⟩ : ∃ ls, ls = s.sp.last := ⟨_, rfl⟩
          obtain ⟨ts, hts⟩ : ∃ ts, ts = s.rows := ⟨_, rfl⟩
          have HF : Hid (∀ k, rowFit (s.rows.getD k Go.Proofs.YtjmfefaoenmppaaGreatDoor.b0) (s.sp.refs.getD k 0, s.sp.last.getD k 0) s.txg ↔ rowFit (ts.getD k Go.Proofs.YtjmfefaoenmppaaGreatDoor.b0) (rs.getD k 0, ls.getD k 0) s.txg) := Lib.hid (fun k => by rw [hrs, hls, hts])
          have HR := Lib.hid (sp_bd hsp)
          have HLO := Lib.hid (refs_low hsp)
          have HTX := Lib.hid hs.texts
          have HY := Lib.hid hyes
          have HN := Lib.hid hno
          have hl := hsp.1
          have hl2 := hsp.2.1
          rw [hl, hl2] at b0 B0 h3 ⊢
          rw [← hrs] at hl
          rw [← hls] at hl2
          rw [← hts] at h64
          have H1 := Lib.hid hl
          have H2 := Lib.hid hl2
          have H3 := Lib.hid h64
          have HRS := Lib.hid hrs
          have HTS := Lib.hid hts
          have hA1 : Lies w xA (strCells ts) := by rw [hts]; exact hA.rows
          have hA3 : Lies w xR (intCells rs) := by rw [hrs]; exact hA.sp.1
          have hA4 : Lies w xL (intCells ls) := by rw [hls]; exact hA.sp.2
          have hA5 : PArg w xG s.gone := hA.gone
          have hA6 : PArg w xD s.dead := hA.dead
          have hgl := hs.gone
          have hdl := hs.dead
          clear hA hl hl2 h64 hrs hls hts hyes hno hs e1 e2 e3 hsp hparts hkw
          go_enter Tryz.func40, Tryz.ntmps40
          go_wp2_with (first | (go_at_call 70; refine h3.mono ?_; rintro r w2 ⟨rfl, hb2⟩; obtain ⟨x0, x1, x2, x3, x4, x5, x6, x7⟩ := (b0.below hb2).cells) | (go_at_call 54; ((with_reducible refine (h1 _).mono ?_); rintro r w3 ⟨rfl, rfl⟩)) | (go_at_call 54; refine (h2 _).mono ?_; rintro r w3 ⟨rfl, rfl⟩))
          have b2 := b0.below hb2
          have B2 := bel_then B0 hb2
          clear b0 B0 hb2 h1 h2 h3 x0 x1 x2 x3 x4 x5 x6 x7
          go_loopw [3] (fun i wr => ∃ k : Nat, k ≤ 64 ∧ i = .int .i64 k ∧ RowsTo s k ∧ Below w.heap.size w wr ∧ B8 wr w.heap.size 38 (.slice xA 64 xa) (.slice xR 64 xr) (.slice xL 64 xl) (.int .i64 s.txg) (.slice xG s.gone.length xg) (.int .i64 s.keep) (.slice xD s.dead.length xd) (.bool s.same)) (fun i _ => 64 - (intOf i).toNat)
          case atStart => exact ⟨0, by omega, rfl, fun j hj => absurd hj (Nat.not_lt_zero j), B2, b2⟩
          case round =>
            obtain ⟨k, hk, rfl, hj, hB, hb⟩ := hrel
            have HJ := Lib.hid hj
            clear b2 B2 hj
            have hwl := hb.lt
            obtain ⟨x0, x1, x2, x3, x4, x5, x6, x7⟩ := hb.cells
            by_cases hlt : k < 64
            · have hk1 : k < ts.length := by have := H3.out; omega
              have hk2 : k < rs.length := by have := H1.out; omega
              have hk3 : k < ls.length := by have := H2.out; omega
              obtain ⟨b1, o1, rfl, hl1, hc1⟩ := (hA1.below hB).str k hk1
              obtain ⟨b2, o2, rfl, hl2, hc2⟩ := (hA3.below hB).int k hk2
              obtain ⟨b3, o3, rfl, hl3, hc3⟩ := (hA4.below hB).int k hk3
              have hfit := HF.out k
              rw [List.getD_eq_getElem?_getD (l := ts), List.getD_eq_getElem?_getD (l := rs), List.getD_eq_getElem?_getD (l := ls), List.getElem?_eq_getElem hk1, List.getElem?_eq_getElem hk2, List.getElem?_eq_getElem hk3, Option.getD_some, Option.getD_some, Option.getD_some] at hfit
              have htz : ts[k].size ≤ maxLen := HTX.out _ (by have := HTS.out; subst this; exact List.getElem_mem hk1)
              have hy9 : 0 ≤ rs[k] := by
                have := (HR.out k hlt).1
                have h2 := HRS.out
                subst h2
                rwa [List.getD_eq_getElem?_getD, List.getElem?_eq_getElem hk2, Option.getD_some] at this
              obtain ⟨t, ht'⟩ : ∃ t, t = ts[k] := ⟨_, rfl⟩
              obtain ⟨y, hy⟩ : ∃ y, y = rs[k] := ⟨_, rfl⟩
              obtain ⟨z, hz⟩ : ∃ z, z = ls[k] := ⟨_, rfl⟩
              rw [← ht'] at hfit hc1 htz
              rw [← hy] at hfit hc2 hy9
              rw [← hz] at hfit hc3
              have HFT := Lib.hid hfit
              have hki : (k : Int) < 64 := by omega
              unfold maxLen at htz
              clear ht' hy hz hfit hA1 hA3 hA4 hA5 hA6 hk1 hk2 hk3
              have yes : rowFit t (y, z) s.txg → Hid (RowsTo s (k + 1)) := fun h => Lib.hid (HJ.out.next (HFT.out.2 h))
              have no : ¬ rowFit t (y, z) s.txg → Hid (rowsB s = false) := fun h => Lib.hid (HN.out k hlt (fun h2 => h (HFT.out.1 h2)))
              have ddT : ((true : Bool) != true) = false := rfl
              have ddF : ((false : Bool) != false) = false := rfl
              have dTF : ((true : Bool) != false) = true := rfl
              have dFT : ((false : Bool) != true) = true := rfl
              by_cases hbig : 128 < t.size
              · have HQ := no (fun h => by have := h.1; omega)
                have hz1 : (128 : Int) < (t.size : Int) := by omega
                have d2 : decide (128 < (t.size : Int)) = true := by simpa using hz1
                clear yes no
                go_wp2_with fail
                go_quiet (fail)
                go_wp2_with fail
                go_ret
                exact ⟨by rw [HQ.out]; rfl, below_drewN hB _⟩
              · have hz1 : ¬ (128 : Int) < (t.size : Int) := by omega
                have d2 : decide (128 < (t.size : Int)) = false := by simpa using hz1
                by_cases hs0 : t.size = 0
                · obtain ⟨e1, e2⟩ := txt_no hs0
                  by_cases hy0 : y = 0
                  · have d1 : (y == 0) = true := by simpa using hy0
                    by_cases hzz : z ≤ s.txg
                    · have HOK := yes ⟨by omega, by simp only; omega, hzz⟩
                      have d3 : decide (s.txg < z) = false := by simpa using hzz
                      have d4 : ¬ s.txg < z := by omega
                      clear yes no
                      go_wp2_with fail
                      go_quiet (fail)
                      go_wp2_with fail
                      go_roundw
                      case rel => exact ⟨k + 1, by omega, by go_num, HOK.out, below_drewN hB _, hb⟩
                      case measure => simp [intOf]; omega
                    · have HQ := no (fun h => hzz h.2.2)
                      have d3 : decide (s.txg < z) = true := by simp; omega
                      have d4 : s.txg < z := by omega
                      clear yes no hzz
                      go_wp2_with fail
                      go_quiet (fail)
                      go_wp2_with fail
                      go_ret
                      exact ⟨by rw [HQ.out]; rfl, below_drewN hB _⟩
                  · have d1 : (y == 0) = false := by simpa using hy0
                    have HQ := no (fun h => hy0 (h.2.1.1 hs0))
                    clear yes no hy0
                    go_wp2_with fail
                    go_quiet (fail)
                    go_wp2_with fail
                    go_ret
                    exact ⟨by rw [HQ.out]; rfl, below_drewN hB _⟩
                · obtain ⟨e1, e2⟩ := txt_yes hs0
                  by_cases hy0 : y = 0
                  · have d1 : (y == 0) = true := by simpa using hy0
                    have HQ := no (fun h => hs0 (h.2.1.2 hy0))
                    clear yes no hy0
                    go_wp2_with fail
                    go_quiet (fail)
                    go_wp2_with fail
                    go_ret
                    exact ⟨by rw [HQ.out]; rfl, below_drewN hB _⟩
                  · have d1 : (y == 0) = false := by simpa using hy0
                    by_cases hzz : z ≤ s.txg
                    · have HOK := yes ⟨by omega, by simp only; omega, hzz⟩
                      have d3 : decide (s.txg < z) = false := by simpa using hzz
                      have d4 : ¬ s.txg < z := by omega
                      clear yes no
                      go_wp2_with fail
                      go_quiet (fail)
                      go_wp2_with fail
                      go_roundw
                      case rel => exact ⟨k + 1, by omega, by go_num, HOK.out, below_drewN hB _, hb⟩
                      case measure => simp [intOf]; omega
                    · have HQ := no (fun h => hzz h.2.2)
                      have d3 : decide (s.txg < z) = true := by simp; omega
                      have d4 : s.txg < z := by omega
                      clear yes no hzz
                      go_wp2_with fail
                      go_quiet (fail)
                      go_wp2_with fail
                      go_ret
                      exact ⟨by rw [HQ.out]; rfl, below_drewN hB _⟩
            · have hke : k = 64 := by omega
              subst hke
              have HYY := Lib.hid (HY.out HJ.out)
              clear hA1 hA4
              have hmk := make64
              obtain ⟨Z, hZ⟩ : ∃ Z, Z = z64 := ⟨_, rfl⟩
              have hzo := z64_own wr
              rw [← hZ] at hmk hzo
              have bz := hb.alloc (.cells Z 3)
              have Bz := bel_new hB (.cells Z 3)
              have hgw := Bz.size
              clear hZ
              go_wp2_with fail
              obtain ⟨wo, rfl⟩ : ∃ wo : World, wo = wr := ⟨_, rfl⟩
              have HNO : Hid (∀ j, j < s.gone.length + s.dead.length → ¬ okAt s.sp.refs ((s.gone ++ s.dead).take j) (topAt s j) ((s.gone ++ s.dead).getD j P5.zero) → refsB s = false) := Lib.hid (fun j hj h => by
                cases hr : refsB s with
                | false => rfl
                | true => exact absurd ((refsB_iff s).1 hr j hj) h)
              have HZO := Lib.hid hzo
              have HBZ := Lib.hid bz
              have HBB := Lib.hid Bz
              have hwz : w.heap.size < wo.heap.size := hwl
              have HGL := Lib.hid hA5
              clear hzo bz Bz hb hB HF HN HY H2 H3 HTS HTX ls ts x0 x1 x2 x3 x4 x5 x6 x7 hmk hgw hwl
              go_loopw [5, 6, 7] (fun i _ _ wr => ∃ (k : Nat) (ys : List Int), k ≤ s.gone.length + s.dead.length ∧ i = .int .i64 k ∧ AllTo s k ∧ CntR ((s.gone ++ s.dead).take k) ys ∧ Below w.heap.size w wr ∧ B8 wr w.heap.size 38 (.slice xA 64 xa) (.slice xR 64 xr) (.slice xL 64 xl) (.int .i64 s.txg) (.slice xG s.gone.length xg) (.int .i64 s.keep) (.slice xD s.dead.length xd) (.bool s.same) ∧ wr.ownsRow wo.heap.size 3 1 (.slice (some ⟨wo.heap.size, 0, none⟩) 64 64) 64 (intCells ys)) (fun i _ _ _ => s.gone.length + s.dead.length - (intOf i).toNat)
              case atStart => exact ⟨0, List.replicate 64 0, Nat.zero_le _, rfl, fun j hj => absurd hj (Nat.not_lt_zero j), CntR.start, HBB.out, HBZ.out, HZO.out⟩
              case round =>
                obtain ⟨k, ys, hk, rfl, hj, hcr, hB, hb, ho⟩ := hrel
                have HJ := Lib.hid hj
                have HCR := Lib.hid hcr
                clear hj hcr
                have q0 := hb.lt
                have p0 : wo.heap.size < wr.heap.size := (ho.lt _ rfl).2
                have q1 : w.heap.size < wr.heap.size + 1 := by omega
                have q2 : w.heap.size < wr.heap.size + 1 + 1 := by omega
                have q3 : w.heap.size < wr.heap.size + 1 + 1 + 1 := by omega
                have p1 : wo.heap.size < wr.heap.size + 1 := by omega
                have p2 : wo.heap.size < wr.heap.size + 1 + 1 := by omega
                have p3 : wo.heap.size < wr.heap.size + 1 + 1 + 1 := by omega
                obtain ⟨x0, x1, x2, x3, x4, x5, x6, x7⟩ := hb.cells
                by_cases hlt : k < s.gone.length + s.dead.length
                · have hki : (k : Int) < (s.gone.length : Int) + (s.dead.length : Int) := by omega
                  obtain ⟨p, hp⟩ : ∃ p, p = (s.gone ++ s.dead).getD k P5.zero := ⟨_, rfl⟩
                  have HNK := Lib.hid (HNO.out k hlt)
                  have htk : (s.gone ++ s.dead).take (k + 1) = (s.gone ++ s.dead).take k ++ [p] := by
                    have hkl : k < (s.gone ++ s.dead).length := by rw [List.length_append]; omega
                    rw [List.take_succ_eq_append_getElem hkl, hp, List.getD_eq_getElem?_getD, List.getElem?_eq_getElem hkl, Option.getD_some]
                  have HTK := Lib.hid htk
                  obtain ⟨a, b, c, d, e⟩ := p
                  have HP := Lib.hid hp
                  have hM := fun W => spec_pok a b c d e W
                  have hH := fun W => spec_hole a b c d e W
                  clear htk
                  by_cases hg : k < s.gone.length
                  · have hgi : (k : Int) < (s.gone.length : Int) := by omega
                    have htop : topAt s k = s.txg - 1 := if_pos hg
                    have hpk : s.gone[k] = ⟨a, b, c, d, e⟩ := by
                      rw [hp, List.getD_eq_getElem?_getD, List.getElem?_append_left hg, List.getElem?_eq_getElem hg, Option.getD_some]
                    obtain ⟨bb, off, rfl, hlb, z0, z1, z2, z3, z4⟩ := (hA5.below hB).five k hg hpk
                    have HTOP := Lib.hid htop
                    have hr1 : bb < wr.heap.size + 1 := by omega
                    clear hp hpk htop
                    cases hio : isOk a b c d e with
                    | false =>
                      rw [hio] at hM
                      have HQ := Lib.hid (HNK.out (fun h => by rw [← HP.out] at h; have := h.1; rw [show P5.ok ⟨a, b, c, d, e⟩ = isOk a b c d e from rfl, hio] at this; cases this))
                      clear hio hH
                      go_wp2_with (first | (go_at_call 71; refine (hM _).mono ?_; rintro r w2 ⟨rfl, rfl⟩))
                      go_ret
                      exact ⟨by rw [HYY.out, HQ.out]; rfl, bel_new (bel_new (bel_new hB _) _) _⟩
                    | true =>
                      rw [hio] at hM
                      cases hho : isHole a b c d e with
                      | true =>
                        rw [hho] at hH
                        have HQ := Lib.hid (HNK.out (fun h => by
                          rw [← HP.out] at h
                          have h0 := (P5.hole_zero (p := ⟨a, b, c, d, e⟩) hho).1
                          have := h.2.2
                          simp only at h0 this
                          subst h0
                          rw [show (0 : Int).toNat = 0 from rfl, HLO.out] at this
                          omega))
                        clear hio hho
                        go_wp2_with (first | (go_at_call 71; refine (hM _).mono ?_; rintro r w2 ⟨rfl, rfl⟩) | (go_at_call 72; refine (hH _).mono ?_; rintro r w2 ⟨rfl, rfl⟩))
                        go_ret
                        exact ⟨by rw [HYY.out, HQ.out]; rfl, bel_new (bel_new (bel_new (bel_new hB _) _) _) _⟩
                      | false =>
                        rw [hho] at hH
                        have hbd := P5.ok_bounds (p := ⟨a, b, c, d, e⟩) hio hho
                        obtain ⟨n, hn⟩ : ∃ n : Nat, a = (n : Int) := ⟨a.toNat, by have := hbd.1.1; simp only at this; omega⟩
                        subst hn
                        have hn64 : n < 64 := by have := hbd.1.2; simp only at this; omega
                        have hn64i : (n : Int) < 64 := by omega
                        have HIO := Lib.hid hio
                        clear hio hho hbd
                        by_cases hbt : b ≤ s.txg - 1
                        · have hbt2 : ¬ (s.txg - 1 < b) := by omega
                          have HBT := Lib.hid hbt
                          obtain ⟨y, hy⟩ : ∃ y, y = ys.getD n 0 := ⟨_, rfl⟩
                          have hc := ho.cellAt n (by omega)
                          have hf := ho.frozenAt n
                          rw [intCells_at ys n (by have := HCR.out.len; omega), show ys[n]'(by have := HCR.out.len; omega) = y by rw [hy, List.getD_eq_getElem?_getD, List.getElem?_eq_getElem (by have := HCR.out.len; omega), Option.getD_some]] at hc
                          have hy2 := HCR.out.at_ n hn64
                          rw [← hy] at hy2
                          have hcl := cntAt_le ((s.gone ++ s.dead).take k) (n : Int)
                          rw [List.length_take] at hcl
                          have hy9 : 0 ≤ y ∧ y ≤ 2097152 := by omega
                          obtain ⟨b2, o2, rfl, hl2w, hc2w⟩ := hA3.int n (by have := H1.out; omega)
                          have hc2 := (hB.cell (p := ⟨b2, o2 + n, none⟩) hl2w).trans hc2w
                          have hl2 : b2 < wr.heap.size := by omega
                          have hne1 : b2 ≠ wo.heap.size := by omega
                          have hne2 : wo.heap.size ≠ b2 := by omega
                          have hne3 : w.heap.size ≠ wo.heap.size := by omega
                          have hne4 : wo.heap.size ≠ w.heap.size := by omega
                          obtain ⟨u, hu⟩ : ∃ u, u = rs[n]'(by have := H1.out; omega) := ⟨_, rfl⟩
                          rw [← hu] at hc2
                          clear hc2w
                          have hu2 : s.sp.refs.getD n 0 = u := by rw [← HRS.out, List.getD_eq_getElem?_getD, List.getElem?_eq_getElem (by have := H1.out; omega), Option.getD_some, hu]
                          have HYC := Lib.hid hy2
                          have HU := Lib.hid hu2
                          have hr2 : b2 < wr.heap.size + 1 := by omega
                          have hr3 : b2 < wr.heap.size + 1 + 1 := by omega
                          have hr4 : b2 < wr.heap.size + 1 + 1 + 1 := by omega
                          have HCN := Lib.hid (HCR.out.next (p := ⟨n, b, c, d, e⟩) hn64 rfl)
                          have HYY2 := Lib.hid hy
                          have hokI : okAt s.sp.refs ((s.gone ++ s.dead).take k) (topAt s k) ((s.gone ++ s.dead).getD k P5.zero) ↔ ¬ u < y + 1 := by
                            rw [← HP.out, HTOP.out]
                            unfold okAt
                            simp only [Int.toNat_natCast]
                            rw [hu2, ← hy2]
                            constructor
                            · rintro ⟨_, _, h3⟩; omega
                            · intro h; exact ⟨HIO.out, HBT.out, by omega⟩
                          have HOI := Lib.hid hokI
                          have hst := (ho.stored n (.int .i64 (y + 1))).1
                          rw [intCells_set] at hst
                          have HST := Lib.hid hst
                          clear hst
                          clear hy hy2 hcl hu hu2 hbt hokI
                          by_cases hyu : u < y + 1
                          · have d5 : decide (u < y + 1) = true := by simpa using hyu
                            have HQ := Lib.hid (HNK.out (fun h => HOI.out.1 h hyu))
                            clear hyu
                            go_wp2_with (first | (go_at_call 71; refine (hM _).mono ?_; rintro r w2 ⟨rfl, rfl⟩) | (go_at_call 72; refine (hH _).mono ?_; rintro r w2 ⟨rfl, rfl⟩))
                            go_region
                            all_goals go_wp2_with fail
                            all_goals go_quiet (fail)
                            all_goals go_wp2_with fail
                            all_goals go_ret
                            all_goals exact ⟨by rw [HYY.out, HQ.out]; rfl, below_drewN (Below.drew (bel_new (bel_new (bel_new (bel_new (hB.setCell (p := ⟨wo.heap.size, n, none⟩) (Nat.le_of_lt hwz) _) _) _) _) _)) _⟩
                          · have d5 : decide (u < y + 1) = false := by simpa using hyu
                            have HNX := Lib.hid (HJ.out.next (HOI.out.2 hyu))
                            clear hyu
                            go_wp2_with (first | (go_at_call 71; refine (hM _).mono ?_; rintro r w2 ⟨rfl, rfl⟩) | (go_at_call 72; refine (hH _).mono ?_; rintro r w2 ⟨rfl, rfl⟩))
                            go_region
                            all_goals go_wp2_with fail
                            all_goals go_quiet (fail)
                            all_goals go_wp2_with fail
                            go_roundw
                            case rel =>
                              (repeat apply Exists.intro)
                              exact ⟨⟨k + 1, ys.set n (y + 1), by omega, by go_num, HNX.out, by rw [HTK.out, HYY2.out]; exact HCN.out, below_drewN (bel_new (bel_new (bel_new (bel_new (hB.setCell (p := ⟨wo.heap.size, n, none⟩) (Nat.le_of_lt hwz) _) _) _) _) _) _, ((((hb.set (p := ⟨wo.heap.size, n, none⟩) hne3 _).alloc _).alloc _).alloc _).alloc _, own_four HST.out⟩, rfl⟩
                            case measure => simp [intOf]; omega
                        · have hbt2 : s.txg - 1 < b := by omega
                          have HQ := Lib.hid (HNK.out (fun h => by rw [← HP.out, HTOP.out] at h; exact hbt h.2.1))
                          clear hbt
                          go_wp2_with (first | (go_at_call 71; refine (hM _).mono ?_; rintro r w2 ⟨rfl, rfl⟩) | (go_at_call 72; refine (hH _).mono ?_; rintro r w2 ⟨rfl, rfl⟩))
                          go_ret
                          exact ⟨by rw [HYY.out, HQ.out]; rfl, bel_new (bel_new (bel_new (bel_new hB _) _) _) _⟩
                  · have hgi : ¬ (k : Int) < (s.gone.length : Int) := by omega
                    have htop : topAt s k = s.keep := if_neg hg
                    obtain ⟨m, hm⟩ : ∃ m, k = s.gone.length + m := ⟨k - s.gone.length, by omega⟩
                    have hmd : m < s.dead.length := by omega
                    have hmi : (m : Int) < (s.dead.length : Int) := by omega
                    have hkm : (k : Int) - (s.gone.length : Int) = (m : Int) := by omega
                    have hpk : s.dead[m] = ⟨a, b, c, d, e⟩ := by
                      rw [hp, List.getD_eq_getElem?_getD, List.getElem?_append_right (by omega), show k - s.gone.length = m by omega, List.getElem?_eq_getElem hmd, Option.getD_some]
                    obtain ⟨bb, off, rfl, hlb, z0, z1, z2, z3, z4⟩ := (hA6.below hB).five m hmd hpk
                    have HTOP := Lib.hid htop
                    have HM := Lib.hid hm
                    have hr1 : bb < wr.heap.size + 1 := by omega
                    clear hp hpk htop hm
                    cases hio : isOk a b c d e with
                    | false =>
                      rw [hio] at hM
                      have HQ := Lib.hid (HNK.out (fun h => by rw [← HP.out] at h; have := h.1; rw [show P5.ok ⟨a, b, c, d, e⟩ = isOk a b c d e from rfl, hio] at this; cases this))
                      clear hio hH
                      go_wp2_with (first | (go_at_call 71; refine (hM _).mono ?_; rintro r w2 ⟨rfl, rfl⟩))
                      go_ret
                      exact ⟨by rw [HYY.out, HQ.out]; rfl, bel_new (bel_new (bel_new hB _) _) _⟩
                    | true =>
                      rw [hio] at hM
                      cases hho : isHole a b c d e with
                      | true =>
                        rw [hho] at hH
                        have HQ := Lib.hid (HNK.out (fun h => by
                          rw [← HP.out] at h
                          have h0 := (P5.hole_zero (p := ⟨a, b, c, d, e⟩) hho).1
                          have := h.2.2
                          simp only at h0 this
                          subst h0
                          rw [show (0 : Int).toNat = 0 from rfl, HLO.out] at this
                          omega))
                        clear hio hho
                        go_wp2_with (first | (go_at_call 71; refine (hM _).mono ?_; rintro r w2 ⟨rfl, rfl⟩) | (go_at_call 72; refine (hH _).mono ?_; rintro r w2 ⟨rfl, rfl⟩))
                        go_ret
                        exact ⟨by rw [HYY.out, HQ.out]; rfl, bel_new (bel_new (bel_new (bel_new hB _) _) _) _⟩
                      | false =>
                        rw [hho] at hH
                        have hbd := P5.ok_bounds (p := ⟨a, b, c, d, e⟩) hio hho
                        obtain ⟨n, hn⟩ : ∃ n : Nat, a = (n : Int) := ⟨a.toNat, by have := hbd.1.1; simp only at this; omega⟩
                        subst hn
                        have hn64 : n < 64 := by have := hbd.1.2; simp only at this; omega
                        have hn64i : (n : Int) < 64 := by omega
                        have HIO := Lib.hid hio
                        clear hio hho hbd
                        by_cases hbt : b ≤ s.keep
                        · have hbt2 : ¬ (s.keep < b) := by omega
                          have HBT := Lib.hid hbt
                          obtain ⟨y, hy⟩ : ∃ y, y = ys.getD n 0 := ⟨_, rfl⟩
                          have hc := ho.cellAt n (by omega)
                          have hf := ho.frozenAt n
                          rw [intCells_at ys n (by have := HCR.out.len; omega), show ys[n]'(by have := HCR.out.len; omega) = y by rw [hy, List.getD_eq_getElem?_getD, List.getElem?_eq_getElem (by have := HCR.out.len; omega), Option.getD_some]] at hc
                          have hy2 := HCR.out.at_ n hn64
                          rw [← hy] at hy2
                          have hcl := cntAt_le ((s.gone ++ s.dead).take k) (n : Int)
                          rw [List.length_take] at hcl
                          have hy9 : 0 ≤ y ∧ y ≤ 2097152 := by omega
                          obtain ⟨b2, o2, rfl, hl2w, hc2w⟩ := hA3.int n (by have := H1.out; omega)
                          have hc2 := (hB.cell (p := ⟨b2, o2 + n, none⟩) hl2w).trans hc2w
                          have hl2 : b2 < wr.heap.size := by omega
                          have hne1 : b2 ≠ wo.heap.size := by omega
                          have hne2 : wo.heap.size ≠ b2 := by omega
                          have hne3 : w.heap.size ≠ wo.heap.size := by omega
                          have hne4 : wo.heap.size ≠ w.heap.size := by omega
                          obtain ⟨u, hu⟩ : ∃ u, u = rs[n]'(by have := H1.out; omega) := ⟨_, rfl⟩
                          rw [← hu] at hc2
                          clear hc2w
                          have hu2 : s.sp.refs.getD n 0 = u := by rw [← HRS.out, List.getD_eq_getElem?_getD, List.getElem?_eq_getElem (by have := H1.out; omega), Option.getD_some, hu]
                          have HYC := Lib.hid hy2
                          have HU := Lib.hid hu2
                          have hr2 : b2 < wr.heap.size + 1 := by omega
                          have hr3 : b2 < wr.heap.size + 1 + 1 := by omega
                          have hr4 : b2 < wr.heap.size + 1 + 1 + 1 := by omega
                          have HCN := Lib.hid (HCR.out.next (p := ⟨n, b, c, d, e⟩) hn64 rfl)
                          have HYY2 := Lib.hid hy
                          have hokI : okAt s.sp.refs ((s.gone ++ s.dead).take k) (topAt s k) ((s.gone ++ s.dead).getD k P5.zero) ↔ ¬ u < y + 1 := by
                            rw [← HP.out, HTOP.out]
                            unfold okAt
                            simp only [Int.toNat_natCast]
                            rw [hu2, ← hy2]
                            constructor
                            · rintro ⟨_, _, h3⟩; omega
                            · intro h; exact ⟨HIO.out, HBT.out, by omega⟩
                          have HOI := Lib.hid hokI
                          have hst := (ho.stored n (.int .i64 (y + 1))).1
                          rw [intCells_set] at hst
                          have HST := Lib.hid hst
                          clear hst
                          clear hy hy2 hcl hu hu2 hbt hokI
                          by_cases hyu : u < y + 1
                          · have d5 : decide (u < y + 1) = true := by simpa using hyu
                            have HQ := Lib.hid (HNK.out (fun h => HOI.out.1 h hyu))
                            clear hyu
                            go_wp2_with (first | (go_at_call 71; refine (hM _).mono ?_; rintro r w2 ⟨rfl, rfl⟩) | (go_at_call 72; refine (hH _).mono ?_; rintro r w2 ⟨rfl, rfl⟩))
                            go_region
                            all_goals go_wp2_with fail
                            all_goals go_quiet (fail)
                            all_goals go_wp2_with fail
                            all_goals go_ret
                            all_goals exact ⟨by rw [HYY.out, HQ.out]; rfl, below_drewN (Below.drew (bel_new (bel_new (bel_new (bel_new (hB.setCell (p := ⟨wo.heap.size, n, none⟩) (Nat.le_of_lt hwz) _) _) _) _) _)) _⟩
                          · have d5 : decide (u < y + 1) = false := by simpa using hyu
                            have HNX := Lib.hid (HJ.out.next (HOI.out.2 hyu))
                            clear hyu
                            go_wp2_with (first | (go_at_call 71; refine (hM _).mono ?_; rintro r w2 ⟨rfl, rfl⟩) | (go_at_call 72; refine (hH _).mono ?_; rintro r w2 ⟨rfl, rfl⟩))
                            go_region
                            all_goals go_wp2_with fail
                            all_goals go_quiet (fail)
                            all_goals go_wp2_with fail
                            go_roundw
                            case rel =>
                              (repeat apply Exists.intro)
                              exact ⟨⟨k + 1, ys.set n (y + 1), by omega, by go_num, HNX.out, by rw [HTK.out, HYY2.out]; exact HCN.out, below_drewN (bel_new (bel_new (bel_new (bel_new (hB.setCell (p := ⟨wo.heap.size, n, none⟩) (Nat.le_of_lt hwz) _) _) _) _) _) _, ((((hb.set (p := ⟨wo.heap.size, n, none⟩) hne3 _).alloc _).alloc _).alloc _).alloc _, own_four HST.out⟩, rfl⟩
                            case measure => simp [intOf]; omega
                        · have hbt2 : s.keep < b := by omega
                          have HQ := Lib.hid (HNK.out (fun h => by rw [← HP.out, HTOP.out] at h; exact hbt h.2.1))
                          clear hbt
                          go_wp2_with (first | (go_at_call 71; refine (hM _).mono ?_; rintro r w2 ⟨rfl, rfl⟩) | (go_at_call 72; refine (hH _).mono ?_; rintro r w2 ⟨rfl, rfl⟩))
                          go_ret
                          exact ⟨by rw [HYY.out, HQ.out]; rfl, bel_new (bel_new (bel_new (bel_new hB _) _) _) _⟩
                · have hke : k = s.gone.length + s.dead.length := by omega
                  subst hke
                  have HYE := Lib.hid ((refsB_iff s).2 HJ.out)
                  clear hA5 hA6
                  go_wp2_with fail
                  go_ret
                  exact ⟨by rw [HYY.out, HYE.out]; rfl, hB⟩
  · have hq1 : ((s.rows.length : Int) != 64) = true := by simp; omega
    rw [okSt_parts, rowsB_len h64]
    clear h1 h2 h3 h64 hA hs hkw
    go_enter Tryz.func40, Tryz.ntmps40
    go_wp2_with fail
    go_ret
    exact ⟨by simp, B0⟩
end Go.Proofs.YtjmfefaoenmppaaGreatDoor
