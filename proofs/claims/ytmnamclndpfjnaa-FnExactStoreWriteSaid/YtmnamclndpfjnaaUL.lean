/-
  The same at the operation.
-/
import Derived.Test.YtmnamclndpfjnaaUM
namespace Go.Proofs.Ytmnamclndpfjnaa
open Go.Maps (Keyed)

section
variable {P : Program} (w : World) {ops : Array Oper} {rest : List Oper} {o : Oper} {a : Act} {Q : Exit → Act → World → Prop} {t k e : TypeId} {b : Nat} {U : Us}

theorem wpList_ulook (T : MTy P t k e) (hg : o.guard = none) (m x : Operand) (hop : o.op = Op.lookup t m x false) (hm : a.eval m = .map (some b)) (h : UMap w P k b U) (n : Int) (hx : a.eval x = .int .i64 n) (hw : (Lit.int .i64 n).wf = true)
    (hK : wpList P ops Q rest (a.put o.dst (.agg #[.int .i64 (useAt U n).1, .int .i64 (useAt U n).2])) w) : wpList P ops Q (o :: rest) a w := by
  refine wpList_plain hg fun K' hK' => ?_
  unfold Oper.wp
  simp [execOp, hop, hm, hx, h.look T hw, Result.andThen]
  exact hK' _ _ hK

theorem wpList_ulen (T : MTy P t k e) (hg : o.guard = none) (m : Operand) (hop : o.op = Op.call { callee := Callee.builtin Builtin.len, args := #[m], argTypes := #[t] }) (hm : a.eval m = .map (some b)) (h : UMap w P k b U)
    (hK : wpList P ops Q rest (a.put o.dst (.int .i64 (cntU U))) w) : wpList P ops Q (o :: rest) a w := by
  refine wpList_plain hg fun K' hK' => ?_
  unfold Oper.wp
  simp [execOp, hop, resolve, invoke, builtin, hm, h.count T o.type, Result.andThen]
  exact hK' _ _ hK

theorem wpList_uput (T : MTy P t k e) (hg : o.guard = none) (m x v : Operand) (hop : o.op = Op.mapUpdate t m x v) (hm : a.eval m = .map (some b)) (h : UMap w P k b U) (n : Int) (u : Int × Int) (hx : a.eval x = .int .i64 n) (hv : a.eval v = .agg #[.int .i64 u.1, .int .i64 u.2])
    (h0 : 0 ≤ n) (h1 : n < 64) (hu : u ≠ (0, 0)) (hK : ∀ w', UMap w' P k b (U.set n.toNat u) → w.grownBy w' (some b) → wpList P ops Q rest (a.put o.dst undef) w') : wpList P ops Q (o :: rest) a w := by
  refine wpList_plain hg fun K' hK' => ?_
  obtain ⟨w', hrun, r1, r2⟩ := h.put T h0 h1 hu
  unfold Oper.wp
  simp [execOp, hop, hm, hx, hv, hrun, Result.andThen]
  exact hK' _ _ (hK w' r1 r2)

theorem wpList_udel (T : MTy P t k e) (hg : o.guard = none) (m x : Operand) (hop : o.op = Op.call { callee := Callee.builtin Builtin.delete, args := #[m, x], argTypes := #[t, k] }) (hm : a.eval m = .map (some b)) (h : UMap w P k b U) (n : Int) (hx : a.eval x = .int .i64 n)
    (h0 : 0 ≤ n) (h1 : n < 64) (hK : ∀ w', UMap w' P k b (U.set n.toNat (0, 0)) → w.grownBy w' (some b) → wpList P ops Q rest (a.put o.dst (.tuple #[])) w') : wpList P ops Q (o :: rest) a w := by
  refine wpList_plain hg fun K' hK' => ?_
  obtain ⟨w', hrun, r1, r2⟩ := h.del T h0 h1 o.type
  unfold Oper.wp
  simp [execOp, hop, resolve, invoke, builtin, hm, hx, hrun, Result.andThen]
  exact hK' _ _ (hK w' r1 r2)

theorem wpList_urange (T : MTy P t k e) (hg : o.guard = none) (m : Operand) (hop : o.op = Op.range t m) (hm : a.eval m = .map (some b)) (h : UMap w P k b U)
    (hK : ∀ w', URange w' P k b w.heap.size U zeroU → w.grownBy w' none → w'.heap.size = w.heap.size + 1 → wpList P ops Q rest (a.put o.dst (.pointer (some ⟨w.heap.size, 0, none⟩))) w') : wpList P ops Q (o :: rest) a w := by
  refine wpList_plain hg fun K' hK' => ?_
  obtain ⟨w', hrun, r1, r2, r3⟩ := URange.start h T
  unfold Oper.wp
  simp [execOp, hop, hm, hrun, Result.andThen]
  exact hK' _ _ (hK w' r1 r2 r3)

theorem wpList_unext (T : MTy P t k e) (hg : o.guard = none) (it : Operand) (hop : o.op = Op.next it false) {r : Nat} {L : Us} (hit : a.eval it = .pointer (some ⟨r, 0, none⟩)) (h : URange w P k b r U L)
    (hDone : L = U → wpList P ops Q rest (a.put o.dst (.tuple #[.bool false])) w)
    (hMore : ∀ (n : Int) (x y : Int) (w' : World), 0 ≤ n → n < 64 → (x, y) = useAt U n → (x, y) ≠ (0, 0) → URange w' P k b r U (L.set n.toNat (x, y)) → w'.rangeLeft b r < w.rangeLeft b r → w.grownBy w' (some r) → w'.heap.size = w.heap.size →
      (Instr.entry (.pointer (some ⟨r, 0, none⟩))).run P w' = .ok (.tuple #[.int .i64 n, .agg #[.int .i64 x, .int .i64 y]]) w' → wpList P ops Q rest (a.put o.dst (.tuple #[.bool true, .int .i64 n, .agg #[.int .i64 x, .int .i64 y]])) w') :
    wpList P ops Q (o :: rest) a w := by
  refine wpList_plain hg fun K' hK' => ?_
  unfold Oper.wp
  rcases h.next T o.type with ⟨h0, hrun⟩ | ⟨n, u, w', g0, g1, g2, g3, hrun, hr, hl, hg', hs, hen⟩
  · simp [execOp, hop, hit, hrun, Result.andThen]
    exact hK' _ _ (hDone h0)
  · simp [execOp, hop, hit, hrun, Result.andThen]
    exact hK' _ _ (hMore n u.1 u.2 w' g0 g1 g2 g3 hr hl hg' hs hen)
end
end Go.Proofs.Ytmnamclndpfjnaa
