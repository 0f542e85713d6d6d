/-
  A map from rows and births to whether they were seen.
-/
import Derived.Test.YtlmemjfinpccoaaUM
import Derived.Test.YtlmemjfinpccoaaIm
import Derived.Maps.Own
import Derived.Maps.Keyed
import Derived.DeepKeys4
import Derived.WideKeyPair
namespace Go.Proofs.Ytlmemjfinpccoaa
open Go.Maps (Keyed)

theorem laid85 : laidOutB Try.prog = true := by kernel_rfl
theorem row85 : (85 : TypeId) < Try.prog.types.size := of_decide_eq_true (by kernel_rfl)
theorem wide85 : (match Try.prog.underlying 85 with | some (.array _ _) | some (.struct _) => true | _ => false) = true := by kernel_rfl
theorem keyed85 : Keyed Try.prog 85 := Keyed.of_law (deep_law_laid laid85 (m := 2) (by omega) row85 (by kernel_rfl) wide85)
def litOf (x y : Int) : Lit := .string (keyBytes [.int .i64 x, .int .i64 y])
theorem keyOf85 {x y : Int} (hx : (Lit.int .i64 x).wf = true) (hy : (Lit.int .i64 y).wf = true) : keyOf Try.prog 85 (.agg #[.int .i64 x, .int .i64 y]) = some (litOf x y) := by
  have hkt : Try.prog.keyType 85 = true := by kernel_rfl
  have hc : Try.prog.cellsOf 85 = 2 := by kernel_rfl
  have hc3 : Try.prog.cellsOf 3 = 1 := by kernel_rfl
  obtain ⟨m, hm⟩ : ∃ m, Try.prog.types.size + 1 = m + 1 + 1 := ⟨Try.prog.types.size - 1, by have h : 85 < Try.prog.types.size := row85; omega⟩
  unfold keyOf litOf
  rw [hm]
  simp [Try.underlying85, hkt, Value.formed, hc, Program.keyLits, Value.cells, hc3, Try.underlying3, hx, hy]
/-- Block b is a map that tells f. -/
def Seen (w : World) (b n : Nat) (f : Int → Int → Bool) : Prop :=
  ∃ D : DataW Unit, w.ownsMap Try.prog 85 (plainElem Try.prog 4) b n D ∧ ∀ x y, (Lit.int .i64 x).wf = true → (Lit.int .i64 y).wf = true → D.atKey (litOf x y) (.lit (.bool false)) = .lit (.bool (f x y))
theorem Seen.lt {w : World} {b n : Nat} {f : Int → Int → Bool} (h : Seen w b n f) : b < w.heap.size := by obtain ⟨D, h, _⟩ := h; exact h.lt
theorem Seen.below {w w' : World} {b n : Nat} {f : Int → Int → Bool} (h : Seen w b n f) (hb : Go.RowKit.Below w.heap.size w w') : Seen w' b n f := by
  obtain ⟨D, h, hD⟩ := h
  exact ⟨D, h.kept (row := none) ⟨hb.os, hb.tape, hb.output, hb.size, fun k hk _ => hb.block k hk⟩ (by simp), hD⟩
theorem Seen.grown {w w' : World} {b n : Nat} {f : Int → Int → Bool} {r : Option Nat} (h : Seen w b n f) (hg : w.grownBy w' r) (hr : some b ≠ r) : Seen w' b n f := by
  obtain ⟨D, h, hD⟩ := h
  exact ⟨D, h.kept hg hr, hD⟩
theorem Seen.mono {w : World} {b n m : Nat} {f : Int → Int → Bool} (h : Seen w b n f) (hm : n ≤ m) : Seen w b m f := by
  obtain ⟨D, h, hD⟩ := h
  exact ⟨D, h.mono hm, hD⟩
theorem Seen.same {w : World} {b n : Nat} {f g : Int → Int → Bool} (h : Seen w b n f) (hf : ∀ x y, f x y = g x y) : Seen w b n g := by
  obtain ⟨D, h, hD⟩ := h
  exact ⟨D, h, fun x y hx hy => by rw [hD x y hx hy, hf]⟩
theorem Seen.made (w : World) : Seen (w.alloc (.map #[] 0)) w.heap.size 0 (fun _ _ => false) :=
  ⟨.map [], World.ownsMap_made w _ _ _, fun _ _ _ _ => rfl⟩
theorem Seen.look {w : World} {b n : Nat} {f : Int → Int → Bool} (h : Seen w b n f) {x y : Int} (hx : (Lit.int .i64 x).wf = true) (hy : (Lit.int .i64 y).wf = true) :
    (Instr.lookup 83 (.map (some b)) (.agg #[.int .i64 x, .int .i64 y]) false).run Try.prog w = .ok (.bool (f x y)) w := by
  obtain ⟨D, h, hD⟩ := h
  obtain ⟨v, ps, hrun, hv⟩ := h.lookup keyed85 Try.underlying83 (z := .bool false) (by kernel_rfl) (plainElem_bool Try.underlying4 false) (keyOf85 hx hy)
  rw [hD x y hx hy] at hv
  have hvv : v = .bool (f x y) := by
    unfold plainElem at hv
    simp [Try.underlying4] at hv
    split at hv <;> simp_all
  rw [← hvv]
  exact hrun
theorem Seen.put {w : World} {b n : Nat} {f : Int → Int → Bool} (h : Seen w b n f) (hn : n < maxLen) {x y : Int} (hx : (Lit.int .i64 x).wf = true) (hy : (Lit.int .i64 y).wf = true) :
    ∃ w', (Instr.mapUpdate 83 (.map (some b)) (.agg #[.int .i64 x, .int .i64 y]) (.bool true)).run Try.prog w = .ok () w' ∧ Seen w' b (n + 1) (fun a c => f a c || (x == a && y == c)) ∧ w.grownBy w' (some b) := by
  obtain ⟨D, h, hD⟩ := h
  obtain ⟨w', hrun, r1, r2⟩ := h.update keyed85 Try.underlying83 hn (keyOf85 hx hy) (plainElem_bool Try.underlying4 true)
  refine ⟨w', hrun, ⟨_, r1, fun a c ha hc => ?_⟩, r2⟩
  by_cases he : x = a ∧ y = c
  · obtain ⟨rfl, rfl⟩ := he
    rw [Maps.atKey_put_same h.isMap (k := litOf x y) trivial]
    simp
  · have hne : litOf a c ≠ litOf x y := fun e => by
      have := keyed85.inj (keyOf85 ha hc) (e ▸ keyOf85 hx hy)
      simp at this
      exact he ⟨this.1.symm, this.2.symm⟩
    rw [Maps.atKey_put_other hne, hD a c ha hc]
    have : (x == a && y == c) = false := by
      rw [Bool.and_eq_false_iff]
      by_cases h1 : x = a
      · right; simp; exact fun h2 => he ⟨h1, h2⟩
      · left; simpa using h1
    simp only [this, Bool.or_false]
theorem wpList_sput {ops : Array Oper} {rest : List Oper} {o : Oper} {a : Act} {Q : Exit → Act → World → Prop} (w : World) (hg : o.guard = none) (m x v : Operand) (hop : o.op = Op.mapUpdate 83 m x v)
    (b n : Nat) (f : Int → Int → Bool) (hm : a.eval m = .map (some b)) (h : Seen w b n f) (hn : n < maxLen) (p q : Int) (hx : a.eval x = .agg #[.int .i64 p, .int .i64 q]) (hv : a.eval v = .bool true) (wp_ : (Lit.int .i64 p).wf = true) (wq : (Lit.int .i64 q).wf = true)
    (hK : ∀ w', Seen w' b (n + 1) (fun a c => f a c || (p == a && q == c)) → w.grownBy w' (some b) → wpList Try.prog ops Q rest (a.put o.dst undef) w') :
    wpList Try.prog ops Q (o :: rest) a w := by
  refine wpList_plain hg fun K' hK' => ?_
  obtain ⟨w', hrun, r1, r2⟩ := h.put hn wp_ wq
  unfold Oper.wp
  simp [execOp, hop, hm, hx, hv, hrun, Result.andThen]
  exact hK' _ _ (hK w' r1 r2)
end Go.Proofs.Ytlmemjfinpccoaa
