/-
  A copy of a space, by append.
-/
import Derived.Test.YtmnamclndpfjnaaImB
import Derived.Deep.RegionLaw
import Derived.Deep.AppendLies
import Derived.Deep.RegionHeldLaw
namespace Go.Proofs.Ytmnamclndpfjnaa
open Go.RowKit

/-- Append to a new slice without room: where it lies, and that nothing else turns. -/
theorem run_append_fresh {P : Program} (w : World) (t ty e : TypeId) (i : TypeInfo) (z : Value) (size bytes : Nat) (ht : P.underlying t = some (.slice e)) (hi : P.info? e = some i) (hz : i.zero = some z)
    (hsize : i.size = size) (hby : i.bytes = bytes) (hzs : z.cells.size = size) (hsz : 0 < size) (g : Addr)
    (A : Option Addr) (m c : Nat) (news : List Value) (hm : 0 < m) (hl : news.length = m * size) (hr : Lies w A news)
    (h63 : m ≤ maxLen) (hbytes : m * bytes ≤ 140737488355328) :
    ∃ c' w', (Builtin.append_ #[t, t] ty #[.slice (some g) 0 0, .slice A m c]).run P w = .ok (.slice (some ⟨w.heap.size, 0, none⟩) m c') w' ∧ w'.ownsRow w.heap.size e size (.slice (some ⟨w.heap.size, 0, none⟩) m c') m news ∧ Below w.heap.size w w' := by
  subst hsize
  subst hby
  have hpos : 0 < news.length := by rw [hl]; exact Nat.mul_pos hm hsz
  obtain ⟨b, off, rfl, hb, hc⟩ := hr hpos
  have hrun := run_append_grow (P := P) w t ty e i z ht hi hz g 0 0 [] (by simp) (by simp) ⟨b, off, none⟩ m c news hl (fun j u hu => by rw [Addr.add_mid]; exact hc j u hu) (by omega) (by unfold maxLen at h63; omega) (growslice_fits (by omega) (by rw [Nat.zero_add]; exact hbytes))
  rw [Nat.zero_add] at hrun
  have hge := grownCap_ge w m 0 e
  have hcm := grownCap_le_maxLen w m 0 e h63
  refine ⟨_, _, hrun, ⟨hl, .inr ⟨w.heap.size, _, _, rfl, Nat.le_refl _, heap_alloc_new w.drew _, hge, hcm, ?_, ?_⟩⟩, ((Below.refl _ _).drew).alloc (Nat.le_refl _) _⟩
  · simp only [Array.size_append, List.size_toArray, size_zeroCells, hzs, hl, List.length_nil, Nat.zero_add, ← Nat.add_mul]
    congr 1
    omega
  · simp only [Array.toList_append, List.nil_append, ← hl]
    exact List.take_left
theorem step_append_fresh {P : Program} (w : World) {ops : Array Oper} {o : Oper} {a : Act} {K : Act → World → Prop} {Q : Exit → Act → World → Prop} {E : Prop} (hgd : o.guard = none) (s x : Operand) (t : TypeId)
    (ho : o.op = .call { callee := .builtin .append, args := #[s, x], argTypes := #[t, t] })
    (e : TypeId) (i : TypeInfo) (z : Value) (size bytes : Nat) (ht : P.underlying t = some (.slice e)) (hi : P.info? e = some i) (hz : i.zero = some z)
    (hsize : i.size = size) (hby : i.bytes = bytes) (hzs : z.cells.size = size) (hsz : 0 < size) (g : Addr) (hs : a.eval s = .slice (some g) 0 0)
    (A : Option Addr) (m c : Nat) (news : List Value) (hx : a.eval x = .slice A m c) (hm : 0 < m) (hl : news.length = m * size) (hr : Lies w A news)
    (h63 : m ≤ maxLen) (hbytes : m * bytes ≤ 140737488355328)
    (h : ∀ g' c' w', w'.ownsRow w.heap.size e size (.slice (some ⟨g', 0, none⟩) m c') m news → Below w.heap.size w w' → K (a.put o.dst (.slice (some ⟨g', 0, none⟩) m c')) w') : if Region.wanted o (yielded ops a.tmps) = true then Oper.wp P o a w K Q else E := by
  have hw : Region.wanted o (yielded ops a.tmps) = true := by simp [Region.wanted, hgd]
  rw [if_pos hw]
  obtain ⟨c', w', hrun, h2, h3⟩ := run_append_fresh (P := P) w t o.type e i z size bytes ht hi hz hsize hby hzs hsz g A m c news hm hl hr h63 hbytes
  unfold Oper.wp execOp
  simp only [ho, resolve, invoke, builtin, Sem.run_bind, Sem.run_pure, Result.andThen_ok, List.map_toArray, List.map_cons, List.map_nil, hs, hx, hrun]
  exact h _ c' w' h2 h3

/-- A box that is read, and one that is written, kept. -/
def TwoP (w : World) (g h : Nat) (x y : Value) (W : World) : Prop :=
  W.cell? ⟨g, 0, none⟩ = some x ∧ W.cell? ⟨g, 1, none⟩ = some y ∧ W.cell? ⟨h, 0, none⟩ = some (.slice none 0 0) ∧ W.cell? ⟨h, 1, none⟩ = some (.slice none 0 0) ∧ W.frozen? ⟨h, 0, none⟩ = false ∧ W.frozen? ⟨h, 1, none⟩ = false ∧ g < W.heap.size ∧ h < W.heap.size ∧ Below w.heap.size w W
theorem TwoP.next {w W W' : World} {g h : Nat} {x y : Value} (k : TwoP w g h x y W) (hb : Below W.heap.size W W') : TwoP w g h x y W' := by
  obtain ⟨a0, a1, b0, b1, f0, f1, lg, lh, hw⟩ := k
  exact ⟨(hb.cell lg).trans a0, (hb.cell lg).trans a1, (hb.cell lh).trans b0, (hb.cell lh).trans b1, (hb.frozen lh).trans f0, (hb.frozen lh).trans f1, Nat.lt_of_lt_of_le lg hb.size, Nat.lt_of_lt_of_le lh hb.size, bel_then hw hb⟩
theorem TwoP.alloc {w W : World} {g h : Nat} {x y : Value} (k : TwoP w g h x y W) (o : Obj) : TwoP w g h x y (W.alloc o) := k.next ((Below.refl _ _).alloc (Nat.le_refl _) o)
theorem TwoP.drew {w W : World} {g h : Nat} {x y : Value} (k : TwoP w g h x y W) : TwoP w g h x y W.drew := by
  obtain ⟨a0, a1, b0, b1, f0, f1, lg, lh, hw⟩ := k
  exact ⟨a0, a1, b0, b1, f0, f1, lg, lh, hw.drew⟩
theorem TwoP.new (w : World) (x y : Value) : TwoP w w.heap.size (w.heap.size + 1) x y ((w.alloc (.cells #[x, y] 25)).alloc (.cells #[.slice none 0 0, .slice none 0 0] 25)) := by
  have b0 := (B2.new w 25 x y).alloc (.cells #[.slice none 0 0, .slice none 0 0] 25)
  have b1 := B2.new (w.alloc (.cells #[x, y] 25)) 25 (.slice none 0 0) (.slice none 0 0)
  rw [World.size_alloc] at b1
  obtain ⟨⟨x0, x1⟩, _, _⟩ := b0.cells
  obtain ⟨⟨y0, y1⟩, f0, f1⟩ := b1.cells
  exact ⟨x0, x1, y0, y1, f0, f1, b0.lt, b1.lt, bel_new (bel_new (Below.refl _ _) _) _⟩
/-- One box, kept. -/
def OneP (w : World) (g : Nat) (x y : Value) (W : World) : Prop := W.cell? ⟨g, 0, none⟩ = some x ∧ W.cell? ⟨g, 1, none⟩ = some y ∧ Below w.heap.size w W
theorem TwoP.one {w W : World} {g h : Nat} {x y : Value} (k : TwoP w g h x y W) : OneP w g x y W := ⟨k.1, k.2.1, k.2.2.2.2.2.2.2.2⟩
theorem OneP.set {w W : World} {g : Nat} {x y : Value} (k : OneP w g x y W) {h i : Nat} (hh : w.heap.size ≤ h) (hg : h ≠ g) (u : Value) : OneP w g x y (W.setCell ⟨h, i, none⟩ u) := by
  obtain ⟨a0, a1, hw⟩ := k
  refine ⟨?_, ?_, hw.setCell (p := ⟨h, i, none⟩) hh u⟩
  · rw [World.cell?_of_block (Below.heap_setCell W ⟨h, i, none⟩ u g (fun e => hg e.symm))]; exact a0
  · rw [World.cell?_of_block (Below.heap_setCell W ⟨h, i, none⟩ u g (fun e => hg e.symm))]; exact a1

set_option maxRecDepth 100000 in
set_option maxHeartbeats 8000000 in
theorem spec_copy (A B : Option Addr) (c e : Nat) (s : Sp) (w : World) (h1 : s.refs.length = 64) (h2 : s.last.length = 64) (hA : SpAt w A B s) :
    Calls Try.prog 96 #[.agg #[.slice A s.refs.length c, .slice B s.last.length e]] w (SPost s w) := by
  obtain ⟨i0, hi, hz0, hz1, hz2⟩ := info_parts Try.info3
  have hS := fun W hW => hA.1.below (w' := W) hW
  have hT := fun W hW => hA.2.below (w' := W) hW
  have H1 := Lib.hid h1
  have H2 := Lib.hid h2
  have hl1 : (intCells s.refs).length = 64 * 1 := by rw [intCells_len, h1]
  have hl2 : (intCells s.last).length = 64 * 1 := by rw [intCells_len, h2]
  have HL1 := Lib.hid hl1
  have HL2 := Lib.hid hl2
  rw [h1, h2]
  clear h1 h2 hl1 hl2 hA
  have K0 := TwoP.new w (.slice A 64 c) (.slice B 64 e)
  have s0 : w.heap.size + 1 + 1 ≤ ((w.alloc (.cells #[.slice A 64 c, .slice B 64 e] 25)).alloc (.cells #[.slice none 0 0, .slice none 0 0] 25)).heap.size := by simp
  have hle : w.heap.size ≤ w.heap.size + 1 := by omega
  have hne : w.heap.size + 1 ≠ w.heap.size := by omega
  go_enter Try.func96, Try.ntmps96
  go_upto_region 1 with fail
  obtain ⟨W0, hW0⟩ : ∃ W, W = (w.alloc (.cells #[.slice A 64 c, .slice B 64 e] 25)).alloc (.cells #[.slice none 0 0, .slice none 0 0] 25) := ⟨_, rfl⟩
  rw [← hW0] at K0 s0 ⊢
  clear hW0
  have K1 := K0.drew
  have k0 := K0.one
  have k1 := K1.one
  have Ka : ∀ o, TwoP w w.heap.size (w.heap.size + 1) (.slice A 64 c) (.slice B 64 e) (W0.alloc o).drew := fun o => (K0.alloc o).drew
  have Kb : ∀ o o2, TwoP w w.heap.size (w.heap.size + 1) (.slice A 64 c) (.slice B 64 e) ((W0.alloc o).alloc o2).drew := fun o o2 => ((K0.alloc o).alloc o2).drew
  obtain ⟨x0, x1, y0, y1, f0, f1, hg, hh, B0⟩ := id K0
  go_region_held_law (fun W => W.cell? ⟨w.heap.size, 0, none⟩ = some (.slice A 64 c) ∧ W.cell? ⟨w.heap.size, 1, none⟩ = some (.slice B 64 e) ∧ Below w.heap.size w W)
    ((show OneP w w.heap.size (.slice A 64 c) (.slice B 64 e) _; with_reducible (first | exact k0 | exact k1 | exact (Ka _).one | exact (Kb _ _).one | exact K2.one | exact (K2.alloc _).one | exact K3.one | exact (K3.alloc _).one | exact (K3.one.set hle hne _) | exact ((K3.one.set hle hne _).set hle hne _) | exact ((K2.one.set hle hne _).set hle hne _))))
    (first
      | (refine step_append_fresh _ rfl (.tmp 3) (.tmp 5) 23 rfl 3 i0 (.int .i64 0) 1 8 Try.underlying23 hi hz0 hz1 hz2 rfl (by decide) _ rfl
          A 64 c (intCells s.refs) rfl (by decide) HL1.out (by first | exact hS _ (Ka _).one.2.2 | exact hS _ (Kb _ _).one.2.2 | exact hS _ K3.one.2.2 | exact hS _ (K3.alloc _).one.2.2) (by unfold maxLen; omega) (by omega) ?_
         intro g2 c2 w2 o2 b2
         have K2 := TwoP.next (by first | exact Ka _ | exact Kb _ _ | exact K3 | exact K3.alloc _) b2
         obtain ⟨_, _, y0, y1, f0, f1, _⟩ := id K2)
      | (refine step_append_fresh _ rfl (.tmp 7) (.tmp 9) 23 rfl 3 i0 (.int .i64 0) 1 8 Try.underlying23 hi hz0 hz1 hz2 rfl (by decide) _ rfl
          B 64 e (intCells s.last) rfl (by decide) HL2.out (by first | exact hT _ (Ka _).one.2.2 | exact hT _ (Kb _ _).one.2.2 | exact hT _ K2.one.2.2 | exact hT _ (K2.alloc _).one.2.2) (by unfold maxLen; omega) (by omega) ?_
         intro g3 c3 w3 o3 b3
         have K3 := TwoP.next (by first | exact Ka _ | exact Kb _ _ | exact K2 | exact K2.alloc _) b3
         obtain ⟨_, _, y0, y1, f0, f1, _⟩ := id K3))
  all_goals
    have q2 := own_base (base' := w.heap.size + 1 + 1) o2 (by simp; omega)
    have p2 : w3.ownsRow (w.heap.size + 1 + 1) 3 1 (.slice (some ⟨g2, 0, none⟩) 64 c2) 64 (intCells s.refs) := by first | exact own_bel q2 b3 | exact own_bel (q2.alloc _) b3
    have l2 := (o2.lt g2 rfl)
    have l3 := (o3.lt g3 rfl).1
    have n2 : w.heap.size + 1 + 1 ≤ g2 := by have := l2.1; simp [World.size_alloc] at this; omega
    have n3 : g2 < g3 := by have := l2.2; (try simp at l3); omega
    have ow : SpOwn w3 (w.heap.size + 1 + 1) (.agg #[.slice (some ⟨g2, 0, none⟩) 64 c2, .slice (some ⟨g3, 0, none⟩) 64 c3]) s := ⟨_, _, rfl, by rw [H1.out]; exact p2, by rw [H2.out]; exact own_base o3 (by have := b2.size; (try simp at this); (try simp); omega), fun k e1 e2 => by
      simp only [Value.ownBlock, Option.some.injEq] at e1 e2
      omega⟩
    have B3 := K3.one.2.2
    go_wp2_with fail
    exact bodyPost_ret (v := .agg #[.slice (some ⟨g2, 0, none⟩) 64 c2, .slice (some ⟨g3, 0, none⟩) 64 c3]) (by simp [results, Try.f96, go_sem, y0, y1]) rfl (SPost.mk H1.out.symm H2.out.symm (((ow.set (p := ⟨w.heap.size + 1, 0, none⟩) (Nat.lt_succ_self _) _).set (p := ⟨w.heap.size + 1, 1, none⟩) (Nat.lt_succ_self _) _).base (by omega)) ((B3.setCell (p := ⟨w.heap.size + 1, 0, none⟩) (Nat.le_succ _) _).setCell (p := ⟨w.heap.size + 1, 1, none⟩) (Nat.le_succ _) _))
end Go.Proofs.Ytmnamclndpfjnaa
