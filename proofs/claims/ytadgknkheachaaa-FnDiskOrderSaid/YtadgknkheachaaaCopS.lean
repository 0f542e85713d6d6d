/-
  The model's copy of a disk.
-/
import Derived.Test.YtadgknkheachaaaCopI
import Derived.Deep.RegionHeldLaw
namespace Go.Proofs.Ytadgknkheachaaa
open Go.RowKit

theorem step_append_lies2 {P : Program} (w : World) {ops : Array Oper} {o : Oper} {a : Act} {K : Act → World → Prop} {Q : Exit → Act → World → Prop} {E : Prop} (hgd : o.guard = none) (s x : Operand) (t : TypeId)
    (ho : o.op = .call { callee := .builtin .append, args := #[s, x], argTypes := #[t, t] })
    (base : Nat) (e : TypeId) (i : TypeInfo) (z : Value) (size bytes : Nat) (ht : P.underlying t = some (.slice e)) (hi : P.info? e = some i) (hz : i.zero = some z)
    (hsize : i.size = size) (hby : i.bytes = bytes) (hzs : z.cells.size = size) (hsz : 0 < size)
    (v : Value) (n : Nat) (xs : List Value) (hs : a.eval s = v) (hown : w.ownsRow base e size v n xs)
    (A : Option Addr) (m c : Nat) (news : List Value) (hx : a.eval x = .slice A m c) (hl : news.length = m * size) (hr : Lies w A news) (h1 : ∀ u ∈ news, u.oneCell' = true)
    (h63 : n + m ≤ maxLen) (hbytes : (n + m) * bytes ≤ 140737488355328) (hbase : base ≤ w.heap.size)
    (h : ∀ v' w', w'.ownsRow base e size v' (n + m) (xs ++ news) → w.grownBy w' v.ownBlock → K (a.put o.dst v') w') : if Region.wanted o (yielded ops a.tmps) = true then Oper.wp P o a w K Q else E := by
  have hw : Region.wanted o (yielded ops a.tmps) = true := by simp [Region.wanted, hgd]
  rw [if_pos hw]
  obtain ⟨v', w', hrun, h2, h3⟩ := run_append_lies (P := P) w base t o.type e i z size bytes ht hi hz hsize hby hzs hsz v n xs hown A m c news hl hr h1 h63 hbytes hbase
  unfold Oper.wp execOp
  simp only [ho, resolve, invoke, builtin, Sem.run_bind, Sem.run_pure, Result.andThen_ok, List.map_toArray, List.map_cons, List.map_nil, hs, hx, hrun]
  exact h v' w' h2 h3
theorem TwoB.alloc {w W : World} {g h : Nat} {x y z : Value} (k : TwoB w g h x y z W) (o : Obj) : TwoB w g h x y z (W.alloc o) := k.next ((Below.refl _ _).alloc (Nat.le_refl _) o)
theorem TwoB.grown {w W W' : World} {g h : Nat} {x y z : Value} (k : TwoB w g h x y z W) {r : Option Nat} (hg : W.grownBy W' r) (hr : ∀ b, r = some b → b ≠ g ∧ b ≠ h ∧ w.heap.size ≤ b) : TwoB w g h x y z W' := by
  obtain ⟨a0, a1, a2, b0, b1, b2, f0, f1, f2, lg, lh, hw⟩ := k
  have eg := hg.block g lg (fun e => (hr _ e.symm).1 rfl)
  have eh := hg.block h lh (fun e => (hr _ e.symm).2.1 rfl)
  have cg := fun i => World.cell?_of_block (a := ⟨g, i, none⟩) eg
  have ch := fun i => World.cell?_of_block (a := ⟨h, i, none⟩) eh
  have fh := fun i => World.frozen?_of_block (a := ⟨h, i, none⟩) eh
  exact ⟨(cg 0).trans a0, (cg 1).trans a1, (cg 2).trans a2, (ch 0).trans b0, (ch 1).trans b1, (ch 2).trans b2, (fh 0).trans f0, (fh 1).trans f1, (fh 2).trans f2, Nat.lt_of_lt_of_le lg hg.size, Nat.lt_of_lt_of_le lh hg.size, hw.grown hg hw.size (fun b e => (hr b e).2.2)⟩

theorem own_past2 {W W2 : World} {b1 : Nat} {v v9 : Value} (h : W.ownsRow b1 58 2 v 0 []) (g : W.grownBy W2 v9.ownBlock) (hne : v.ownBlock ≠ v9.ownBlock) : W2.ownsRow b1 58 2 v 0 [] := h.kept g (.inr hne)

set_option maxRecDepth 100000 in
set_option maxHeartbeats 8000000 in
theorem spec_copy (A B : Option Addr) (c e : Nat) (d : Dk) (w : World) (hd : Bulk d) (hA : DkAt w A B d) :
    Calls Try.prog 68 #[.agg #[.slice A d.cells.length c, .slice B d.waits.length e, .bool d.gone]] w (DPost d w) := by
  obtain ⟨i0, hi, hz0, hz1, hz2⟩ := info_parts Try.info9
  obtain ⟨j0, hj, hy0, hy1, hy2⟩ := info_parts Try.info58
  have hS := fun W hW => hA.1.below (w' := W) hW
  have hT := fun W hW => hA.2.below (w' := W) hW
  have hdc := hd.cells
  have hdw := hd.waits
  have K0 := TwoB.new w (.slice A d.cells.length c) (.slice B d.waits.length e) (.bool d.gone)
  have s0 : w.heap.size + 1 + 1 ≤ ((w.alloc (.cells #[.slice A d.cells.length c, .slice B d.waits.length e, .bool d.gone] 25)).alloc (.cells #[.slice none 0 0, .slice none 0 0, .bool false] 25)).heap.size := by simp
  have hle : w.heap.size ≤ w.heap.size + 1 := by omega
  have hne : w.heap.size + 1 ≠ w.heap.size := by omega
  clear hA
  go_enter Try.func68, Try.ntmps68
  go_upto_region 1 with fail
  obtain ⟨W0, hW0⟩ : ∃ W, W = (w.alloc (.cells #[.slice A d.cells.length c, .slice B d.waits.length e, .bool d.gone] 25)).alloc (.cells #[.slice none 0 0, .slice none 0 0, .bool false] 25) := ⟨_, rfl⟩
  rw [← hW0] at K0 s0 ⊢
  clear hW0
  have K1 := K0.drew
  have k0 := K0.one
  have k1 := K1.one
  have Ka : ∀ o, TwoB w w.heap.size (w.heap.size + 1) (.slice A d.cells.length c) (.slice B d.waits.length e) (.bool d.gone) (W0.alloc o).drew := fun o => (K0.alloc o).drew
  have Kb : ∀ o o2, TwoB w w.heap.size (w.heap.size + 1) (.slice A d.cells.length c) (.slice B d.waits.length e) (.bool d.gone) ((W0.alloc o).alloc o2).drew := fun o o2 => ((K0.alloc o).alloc o2).drew
  have M1 : ∀ (e : TypeId) (sz : Nat), (W0.alloc (.cells #[] e)).drew.ownsRow (w.heap.size + 1 + 1) e sz (.slice (some ⟨W0.heap.size, 0, none⟩) 0 0) 0 [] := fun e sz => World.ownsRow_made (e := e) (size := sz) W0 #[] 0 s0 (Nat.zero_le _) (by simp)
  have M2 : ∀ (e : TypeId) (sz : Nat) (o : Obj), ((W0.alloc (.cells #[] e)).alloc o).drew.ownsRow (w.heap.size + 1 + 1) e sz (.slice (some ⟨W0.heap.size, 0, none⟩) 0 0) 0 [] := fun e sz o => (World.ownsRow_made (e := e) (size := sz) W0 #[] 0 s0 (Nat.zero_le _) (by simp)).alloc o
  have M3 : ∀ (e : TypeId) (sz : Nat) (o : Obj), ((W0.alloc o).alloc (.cells #[] e)).drew.ownsRow (w.heap.size + 1 + 1) e sz (.slice (some ⟨W0.heap.size + 1, 0, none⟩) 0 0) 0 [] := fun e sz o => by
    have := World.ownsRow_made (e := e) (size := sz) (base := w.heap.size + 1 + 1) (W0.alloc o) #[] 0 (by rw [World.size_alloc]; omega) (Nat.zero_le _) (by simp)
    rw [World.size_alloc] at this
    exact this
  obtain ⟨x0, x1, x2, y0, y1, y2, f0, f1, f2, hg, hh, B0⟩ := id K0
  go_region_held_law (fun W => W.cell? ⟨w.heap.size, 0, none⟩ = some (.slice A d.cells.length c) ∧ W.cell? ⟨w.heap.size, 1, none⟩ = some (.slice B d.waits.length e) ∧ W.cell? ⟨w.heap.size, 2, none⟩ = some (.bool d.gone) ∧ Below w.heap.size w W)
    ((show OneB w w.heap.size (.slice A d.cells.length c) (.slice B d.waits.length e) (.bool d.gone) _; with_reducible (first | exact k0 | exact k1 | exact (Ka _).one | exact (Kb _ _).one | exact K2.one | exact (K2.alloc _).one | exact K3.one | exact OneB.box K3.one hle hne _ _ _)))
    (first
      | (refine step_append_lies2 _ rfl (.tmp 3) (.tmp 5) 22 rfl (w.heap.size + 1 + 1) 9 i0 (.string ⟨#[]⟩) 1 16 Try.underlying22 hi hz0 hz1 hz2 rfl (by decide) (.slice (some ⟨_, 0, none⟩) 0 0) _ _ rfl
          (by first | exact M1 9 1 | exact M2 9 1 _ | exact M3 9 1 _)
          A d.cells.length c (strCells d.cells) rfl (by rw [strCells_len, Nat.mul_one]) (by first | exact hS _ (Ka _).one.2.2.2 | exact hS _ (Kb _ _).one.2.2.2) (strCells_one d.cells) (by unfold maxLen; omega) (by omega) (by simp; omega) ?_
         intro v2 w2 o2 g2
         rw [Nat.zero_add, List.nil_append] at o2
         obtain ⟨A2, c2, rfl, _⟩ := own_lies o2
         have K2 := TwoB.grown (by first | exact Ka _ | exact Kb _ _) g2 (fun b e => by simp [Value.ownBlock] at e; omega)
         first
           | have O58 := own_past2 (M3 58 2 _) g2 (by simp [Value.ownBlock])
           | have O58 := own_past2 (M2 58 2 _) g2 (by simp [Value.ownBlock])
           | skip
         have b2 := g2.size
         clear g2)
      | (refine step_append_lies2 _ rfl (.tmp 7) (.tmp 9) 23 rfl (w.heap.size + 1 + 1) 58 j0 (.agg #[.int .i64 0, .string ⟨#[]⟩]) 2 24 Try.underlying23 hj hy0 hy1 hy2 rfl (by decide) (.slice (some ⟨_, 0, none⟩) 0 0) _ _ rfl
          (by first | exact O58 | exact World.ownsRow_made _ #[] 0 (by simp at b2; omega) (Nat.zero_le _) rfl)
          B d.waits.length e (wtCells d.waits) rfl (wtCells_len d.waits) (by first | exact hT _ K2.one.2.2.2 | exact hT _ (K2.alloc _).one.2.2.2) (wtCells_one d.waits) (by unfold maxLen; omega) (by omega) (by simp at b2; first | omega | (simp; omega)) ?_
         intro v3 w3 o3 g3
         rw [Nat.zero_add, List.nil_append] at o3
         obtain ⟨A3, c3, rfl, _⟩ := own_lies o3
         have p2 := World.ownsRow.kept (by first | exact o2 | exact o2.alloc _) g3 (by first | exact own_ne O58 o2 (by decide) | exact .inr (fun e => absurd (o2.lt _ e).2 (Nat.lt_irrefl _)))
         have K3 := TwoB.grown (by first | exact K2 | exact K2.alloc _) g3 (fun b e => by simp [Value.ownBlock] at e; simp at b2; omega)
         obtain ⟨z0, z1, z2, y0, y1, y2, f0, f1, f2, _⟩ := id K3))
  all_goals
    have ow : DkOwn w3 (w.heap.size + 1 + 1) (.agg #[.slice A2 d.cells.length c2, .slice A3 d.waits.length c3, .bool d.gone]) d := ⟨9, _, _, rfl, .inl rfl, p2, o3⟩
    have B3 := K3.one.2.2.2
    go_wp2_with fail
    exact bodyPost_ret (v := .agg #[.slice A2 d.cells.length c2, .slice A3 d.waits.length c3, .bool d.gone]) (by simp [results, Try.f68, go_sem, y0, y1, y2]) rfl ⟨_, _, _, _, rfl, (ow.box (R := w.heap.size + 1) (by omega) _ _ _).base (by omega), bel_box B3 hle _ _ _⟩
end Go.Proofs.Ytadgknkheachaaa
