/-
  FanPut, the program's: the text of four pointers, or none.
-/
import Derived.Test.YtlfggmllpbghaaaDoorFanA
import Derived.Laws.Cover3
import Derived.Deep.WholeRow
import Derived.Deep.MidRow
namespace Go.Proofs.YtlfggmllpbghaaaDoor
open Go.RowKit

/-- A whole array into the block that was made last, at the list of a plain region's operations. -/
theorem wpList_store_new {P : Program} {ops : Array Oper} {rest : List Oper} {op : Oper} {a : Act} {Q : Exit → Act → World → Prop} (hgd : op.guard = none) (ty : TypeId) (x y : Operand) (ho : op.op = .store ty x y)
    (w : World) (c c' : Array Value) (hx : a.eval x = .pointer (some ⟨w.heap.size, 0, none⟩)) (hy : a.eval y = .agg c') (hi : (P.info? ty).map (·.size) = some c'.size) (hs : c.size = c'.size) (h1 : c'.all (·.oneCell') = true)
    (h : wpList P ops Q rest (a.put op.dst undef) (w.alloc (.cells c' ty))) : wpList P ops Q (op :: rest) a (w.alloc (.cells c ty)) :=
  wpList_plain hgd fun K hK => by
    unfold Oper.wp execOp
    simp only [ho, hx, hy, run_storeAt_new w ty c c' hi hs h1, Sem.run_bind, Result.andThen_ok]
    exact hK _ _ h

theorem one67 (a0 b0 c0 d0 e0 a1 b1 c1 d1 e1 a2 b2 c2 d2 e2 a3 b3 c3 d3 e3 : Int) : (#[.int .i64 a0, .int .i64 b0, .int .i64 c0, .int .i64 d0, .int .i64 e0, .int .i64 a1, .int .i64 b1, .int .i64 c1, .int .i64 d1, .int .i64 e1, .int .i64 a2, .int .i64 b2, .int .i64 c2, .int .i64 d2, .int .i64 e2, .int .i64 a3, .int .i64 b3, .int .i64 c3, .int .i64 d3, .int .i64 e3] : Array Value).all (·.oneCell') = true := by simp [Value.oneCell']

set_option maxRecDepth 100000 in
set_option maxHeartbeats 4000000 in
theorem fput_any (a0 b0 c0 d0 e0 a1 b1 c1 d1 e1 a2 b2 c2 d2 e2 a3 b3 c3 d3 e3 : Int) (o : Bool) (t : ByteArray) (b cap : Nat) (w : World) (Y : w.rangeAt b 0 [.int .i64 a0, .int .i64 b0, .int .i64 c0, .int .i64 d0, .int .i64 e0, .int .i64 a1, .int .i64 b1, .int .i64 c1, .int .i64 d1, .int .i64 e1, .int .i64 a2, .int .i64 b2, .int .i64 c2, .int .i64 d2, .int .i64 e2, .int .i64 a3, .int .i64 b3, .int .i64 c3, .int .i64 d3, .int .i64 e3])
    (hO : ∀ w, Calls Tryd.prog 54 #[.agg #[.int .i64 a0, .int .i64 b0, .int .i64 c0, .int .i64 d0, .int .i64 e0, .int .i64 a1, .int .i64 b1, .int .i64 c1, .int .i64 d1, .int .i64 e1, .int .i64 a2, .int .i64 b2, .int .i64 c2, .int .i64 d2, .int .i64 e2, .int .i64 a3, .int .i64 b3, .int .i64 c3, .int .i64 d3, .int .i64 e3]] w fun r w' => r = .returned (.bool o) ∧ Below w.heap.size w w')
    (hT : o = true → ∀ W, Below w.heap.size w W → Calls Tryd.prog 55 #[.agg #[.int .i64 a0, .int .i64 b0, .int .i64 c0, .int .i64 d0, .int .i64 e0, .int .i64 a1, .int .i64 b1, .int .i64 c1, .int .i64 d1, .int .i64 e1, .int .i64 a2, .int .i64 b2, .int .i64 c2, .int .i64 d2, .int .i64 e2, .int .i64 a3, .int .i64 b3, .int .i64 c3, .int .i64 d3, .int .i64 e3]] W fun r w' => r = .returned (.string t) ∧ Below W.heap.size W w')
    (hn : o = false → t = ⟨#[]⟩) :
    Calls Tryd.prog 27 #[.slice (some ⟨b, 0, none⟩) 4 cap] w fun r w' => r = .returned (.tuple #[.string t, .bool o]) ∧ Below w.heap.size w w' := by
  have X0 := FB.new w #[.int .i64 a0, .int .i64 b0, .int .i64 c0, .int .i64 d0, .int .i64 e0, .int .i64 a1, .int .i64 b1, .int .i64 c1, .int .i64 d1, .int .i64 e1, .int .i64 a2, .int .i64 b2, .int .i64 c2, .int .i64 d2, .int .i64 e2, .int .i64 a3, .int .i64 b3, .int .i64 c3, .int .i64 d3, .int .i64 e3]
  have hx := X0.1
  have hat : ∀ w, (Instr.arrayAt 67 (.slice (some ⟨b, 0, none⟩) 4 cap)).run Tryd.prog w = .ok (.pointer (some ⟨b, 0, none⟩)) w := fun w => run_arrayAt w 67 24 4 _ 4 cap Tryd.underlying67 (Nat.le_refl _)
  cases o
  · obtain rfl := hn rfl
    clear hT
    go_enter Tryd.func27, Tryd.ntmps27
    go_wp2_with (first | (refine wpList_load_mid rfl 67 _ rfl b 0 rfl [.int .i64 a0, .int .i64 b0, .int .i64 c0, .int .i64 d0, .int .i64 e0, .int .i64 a1, .int .i64 b1, .int .i64 c1, .int .i64 d1, .int .i64 e1, .int .i64 a2, .int .i64 b2, .int .i64 c2, .int .i64 d2, .int .i64 e2, .int .i64 a3, .int .i64 b3, .int .i64 c3, .int .i64 d3, .int .i64 e3] _ (by assumption) Tryd.underlying67 rfl (info67 _ _ _ _ _ _ _ _ _ _ _ _ _ _ _ _ _ _ _ _) ?_) | (refine wpList_store_new rfl 67 _ _ rfl w #[.int .i64 0, .int .i64 0, .int .i64 0, .int .i64 0, .int .i64 0, .int .i64 0, .int .i64 0, .int .i64 0, .int .i64 0, .int .i64 0, .int .i64 0, .int .i64 0, .int .i64 0, .int .i64 0, .int .i64 0, .int .i64 0, .int .i64 0, .int .i64 0, .int .i64 0, .int .i64 0] #[.int .i64 a0, .int .i64 b0, .int .i64 c0, .int .i64 d0, .int .i64 e0, .int .i64 a1, .int .i64 b1, .int .i64 c1, .int .i64 d1, .int .i64 e1, .int .i64 a2, .int .i64 b2, .int .i64 c2, .int .i64 d2, .int .i64 e2, .int .i64 a3, .int .i64 b3, .int .i64 c3, .int .i64 d3, .int .i64 e3] rfl rfl (info67 _ _ _ _ _ _ _ _ _ _ _ _ _ _ _ _ _ _ _ _) rfl (one67 _ _ _ _ _ _ _ _ _ _ _ _ _ _ _ _ _ _ _ _) ?_) | (refine wpList_load_row rfl 67 _ rfl w.heap.size rfl 67 #[.int .i64 a0, .int .i64 b0, .int .i64 c0, .int .i64 d0, .int .i64 e0, .int .i64 a1, .int .i64 b1, .int .i64 c1, .int .i64 d1, .int .i64 e1, .int .i64 a2, .int .i64 b2, .int .i64 c2, .int .i64 d2, .int .i64 e2, .int .i64 a3, .int .i64 b3, .int .i64 c3, .int .i64 d3, .int .i64 e3] (0, 0) _ (by assumption) Tryd.underlying67 rfl (info67 _ _ _ _ _ _ _ _ _ _ _ _ _ _ _ _ _ _ _ _) ?_) | (go_at_call 54; refine (hO _).mono ?_; rintro r w1 ⟨rfl, hb⟩))
    go_ret2
    exact ⟨rfl, (X0.next hb).2.2⟩
  · have hT1 := hT rfl
    clear hT hn
    go_enter Tryd.func27, Tryd.ntmps27
    go_wp2_with (first | (refine wpList_load_mid rfl 67 _ rfl b 0 rfl [.int .i64 a0, .int .i64 b0, .int .i64 c0, .int .i64 d0, .int .i64 e0, .int .i64 a1, .int .i64 b1, .int .i64 c1, .int .i64 d1, .int .i64 e1, .int .i64 a2, .int .i64 b2, .int .i64 c2, .int .i64 d2, .int .i64 e2, .int .i64 a3, .int .i64 b3, .int .i64 c3, .int .i64 d3, .int .i64 e3] _ (by assumption) Tryd.underlying67 rfl (info67 _ _ _ _ _ _ _ _ _ _ _ _ _ _ _ _ _ _ _ _) ?_) | (refine wpList_store_new rfl 67 _ _ rfl w #[.int .i64 0, .int .i64 0, .int .i64 0, .int .i64 0, .int .i64 0, .int .i64 0, .int .i64 0, .int .i64 0, .int .i64 0, .int .i64 0, .int .i64 0, .int .i64 0, .int .i64 0, .int .i64 0, .int .i64 0, .int .i64 0, .int .i64 0, .int .i64 0, .int .i64 0, .int .i64 0] #[.int .i64 a0, .int .i64 b0, .int .i64 c0, .int .i64 d0, .int .i64 e0, .int .i64 a1, .int .i64 b1, .int .i64 c1, .int .i64 d1, .int .i64 e1, .int .i64 a2, .int .i64 b2, .int .i64 c2, .int .i64 d2, .int .i64 e2, .int .i64 a3, .int .i64 b3, .int .i64 c3, .int .i64 d3, .int .i64 e3] rfl rfl (info67 _ _ _ _ _ _ _ _ _ _ _ _ _ _ _ _ _ _ _ _) rfl (one67 _ _ _ _ _ _ _ _ _ _ _ _ _ _ _ _ _ _ _ _) ?_) | (refine wpList_load_row rfl 67 _ rfl w.heap.size rfl 67 #[.int .i64 a0, .int .i64 b0, .int .i64 c0, .int .i64 d0, .int .i64 e0, .int .i64 a1, .int .i64 b1, .int .i64 c1, .int .i64 d1, .int .i64 e1, .int .i64 a2, .int .i64 b2, .int .i64 c2, .int .i64 d2, .int .i64 e2, .int .i64 a3, .int .i64 b3, .int .i64 c3, .int .i64 d3, .int .i64 e3] (0, 0) _ (by assumption) Tryd.underlying67 rfl (info67 _ _ _ _ _ _ _ _ _ _ _ _ _ _ _ _ _ _ _ _) ?_) | (go_at_call 54; refine (hO _).mono ?_; rintro r w1 ⟨rfl, hb⟩; have X1 := X0.next hb; have hx1 := X1.1) | (go_at_call 55; refine (hT1 _ X1.2.2).mono ?_; rintro r w2 ⟨rfl, hb2⟩))
    go_ret2
    exact ⟨rfl, (X1.next hb2).2.2⟩

theorem fput_few (A : Option Addr) (n cap : Nat) (w : World) (hn : n ≠ 4) : Calls Tryd.prog 27 #[.slice A n cap] w fun r w' => r = .returned (.tuple #[.string ⟨#[]⟩, .bool false]) ∧ Below w.heap.size w w' := by
  have hq : ((n : Int) != 4) = true := by rw [bne_iff_ne]; omega
  go_enter Tryd.func27, Tryd.ntmps27
  go_wp2_with fail
  go_ret2
  exact ⟨rfl, Below.refl _ _⟩
end Go.Proofs.YtlfggmllpbghaaaDoor
