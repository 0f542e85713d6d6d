/-
  slices.Backward over waiting writes.
-/
import Derived.Test.YtimpdjlgfjehcaaWr
import Derived.RangeFuncBox
import Derived.RangeFuncNested
import Derived.RangeFuncBound
import Derived.RangeFuncCalls
import Derived.RangeFuncLeaves
import Derived.Shelf.Abstract
import Derived.OwnWalkIn
import Derived.TacticsInMore
import Derived.LoopNIn
import Derived.LoopIn
namespace Go.Proofs.Ytimpdjlgfjehcaa
open Go.RowKit Go.Shelf

attribute [local go_sem] Oper.semAt_some

/-- The first k waiting writes with their places, from the last on. -/
def bwl (ws : List Wt) : Nat → List (Nat × Wt)
  | 0 => []
  | k + 1 => match ws[k]? with
    | some x => (k, x) :: bwl ws k
    | none => bwl ws k
theorem bwl_next (ws : List Wt) (k : Nat) (h : k < ws.length) : bwl ws (k + 1) = (k, ws[k]) :: bwl ws k := by simp [bwl, List.getElem?_eq_getElem h]
theorem rd_none (ws : List Wt) (n : Int) (z : ByteArray) (k : Nat) (hk : k ≤ ws.length) (h : ∀ y ∈ bwl ws k, y.2.num ≠ n) : rd ws n z k = z := by
  induction k with
  | zero => rfl
  | succ k ih =>
    rw [bwl_next ws k (by omega)] at h
    rw [rd_next ws n z k (by omega), if_neg (h (k, ws[k]) (by simp))]
    exact ih (by omega) (fun y hy => h y (by simp [hy]))
theorem rd_hit (ws : List Wt) (n : Int) (z : ByteArray) (k : Nat) (hk : k ≤ ws.length) (pre : List (Nat × Wt)) (x : Nat × Wt) (hp : pre ++ [x] <+: bwl ws k) (h : ∀ y ∈ pre, y.2.num ≠ n) (hx : x.2.num = n) : rd ws n z k = x.2.text := by
  induction k generalizing pre with
  | zero =>
    have := hp.length_le
    simp [bwl] at this
  | succ k ih =>
    rw [bwl_next ws k (by omega)] at hp
    rw [rd_next ws n z k (by omega)]
    cases pre with
    | nil =>
      obtain ⟨rest, hr⟩ := hp
      simp only [List.nil_append, List.cons_append, List.cons.injEq] at hr
      rw [hr.1] at hx ⊢
      rw [if_pos hx]
    | cons y pre =>
      obtain ⟨rest, hr⟩ := hp
      simp only [List.cons_append, List.cons.injEq] at hr
      have hy := h y (by simp)
      rw [hr.1] at hy
      rw [if_neg hy]
      exact ih (by omega) pre ⟨rest, hr.2⟩ (fun q hq => h q (by simp [hq]))
def encW (x : Nat × Wt) : Array Value := #[.int .i64 (x.1 : Int), .agg #[.int .i64 x.2.num, .string x.2.text]]
/-- What lay below n₀ and the box of the row stay. -/
def KpB (n₀ Bs : Nat) (v : Value) (W W' : World) : Prop := Below n₀ W W' ∧ (Boxed W Bs 24 v → Boxed W' Bs 24 v)

theorem backward (n : Nat) (A : Option Addr) (m c : Nat) (w : World) :
    CallsIn Fence.wide n Try.prog 50 #[.slice A m c] w fun e w' => e = .returned (.func (.func 51) #[] #[.pointer (some ⟨w.heap.size, 0, none⟩)]) ∧ w' = w.alloc (.cells #[.slice A m c] 24) := by
  refine callsIn_of_wp Try.func50 rfl trivial ?_ rfl
  simp only [Try.ntmps50, List.size_toArray, List.length_cons, List.length_nil, Nat.reduceAdd, Nat.reduceSub, Array.replicate_succ, Array.replicate_zero, List.push_toArray, List.append_toArray, List.nil_append, List.cons_append]
  gi_wp2
  go_ret
  exact ⟨rfl, rfl⟩

set_option maxRecDepth 100000 in
set_option maxHeartbeats 1000000 in
theorem bw_in (n : Nat) (hn : 1 ≤ n) (l Bs n₀ : Nat) (B : Option Addr) (e : Nat) (ws : List Wt) (h120 : ws.length ≤ 120) (J Jx : List (Nat × Wt) → World → Prop)
    (hY : ∀ pre x W, J pre W → pre.length < ws.length → YieldAt Fence.wide (n - 1) Try.prog l (encW x) W fun r W' =>
      (r = .returned (.bool true) ∧ J (pre ++ [x]) W' ∧ KpB n₀ Bs (.slice B ws.length e) W W') ∨ (r = .returned (.bool false) ∧ Jx (pre ++ [x]) W'))
    (W : World) (hB : Boxed W Bs 24 (.slice B ws.length e)) (hL : ∀ W', Below n₀ W W' → Lies W' B (wtCells ws)) (h0 : J [] W) :
    CallsIn Fence.wide n Try.prog 51 #[.func (.yield l) #[] #[], .pointer (some ⟨Bs, 0, none⟩)] W fun r W' => (∃ v, r = .returned v) ∧
      ((∃ ys, ys = bwl ws ws.length ∧ J ys W') ∨ (∃ pre, pre <+: bwl ws ws.length ∧ Jx pre W')) := by
  refine callsIn_of_wp Try.func51 rfl trivial ?_ rfl
  simp only [Try.ntmps51, List.size_toArray, List.length_cons, List.length_nil, Nat.reduceAdd, Nat.reduceSub, Array.replicate_succ, Array.replicate_zero, List.push_toArray, List.append_toArray, List.nil_append, List.cons_append]
  have hc0 := hB.cell
  have hw0 := IntWalk.i64_in ((ws.length : Int) - 1) (by omega)
  gi_wp2
  gi_loopw [3] (fun i wr => ∃ (k : Nat) (pre : List (Nat × Wt)), k ≤ ws.length ∧ i = .int .i64 ((k : Int) - 1) ∧ pre ++ bwl ws k = bwl ws ws.length ∧ pre.length + k = ws.length ∧ Boxed wr Bs 24 (.slice B ws.length e) ∧ Below n₀ W wr ∧ J pre wr)
    (fun i _ => (intOf i + 1).toNat)
  case atStart => exact ⟨ws.length, [], Nat.le_refl _, rfl, rfl, by simp, hB, Below.refl _ _, h0⟩
  case round =>
    clear hc0 hw0
    obtain ⟨k, pre, hk, rfl, hp, hpl, hbx, hbl, hJs⟩ := hrel
    have hcx := hbx.cell
    by_cases hk0 : 0 < k
    · obtain ⟨i, rfl⟩ : ∃ i, k = i + 1 := ⟨k - 1, by omega⟩
      have hi : i < ws.length := by omega
      obtain ⟨b, off, rfl, hlb, y0, y1⟩ := (hL wr hbl).wt i hi
      rw [bwl_next ws i hi] at hp
      obtain ⟨fn, tmps, assign, body, hy, hR⟩ := hY pre (i, ws[i]) wr hJs (by omega)
      dsimp only [encW] at hy
      have hcast : ((i + 1 : Nat) : Int) - 1 = (i : Int) := by omega
      rw [hcast]
      have hilt : (i : Int) < (ws.length : Int) := by omega
      have hw1 := IntWalk.i64_in ((i : Int) - 1) (by omega)
      have HP := Lib.hid hp
      clear hp hcast
      gi_wp2
      refine hR.mono ?_
      rintro r W3 (⟨rfl, hJ3, hk3, hk4⟩ | ⟨rfl, hJx3⟩)
      · have hb3 := hk4 hbx
        gi_wp2
        go_roundw
        case rel => exact ⟨i, _, by omega, rfl, by rw [List.append_assoc]; exact HP.out, by simp; omega, hb3, hbl.trans hk3, hJ3⟩
        case measure => simp [intOf]
      · gi_wp2
        refine bodyPost_ret (results_none rfl _ _ _) rfl ?_
        exact ⟨⟨_, rfl⟩, .inr ⟨_, ⟨bwl ws i, by rw [List.append_assoc]; exact HP.out⟩, hJx3⟩⟩
    · obtain rfl : k = 0 := by omega
      have hpe : pre = bwl ws ws.length := by rw [← hp]; simp [bwl]
      have hcz : ((0 : Nat) : Int) - 1 = -1 := rfl
      rw [hcz]
      clear hcz hp
      gi_wp2
      go_end0
      exact ⟨⟨_, rfl⟩, .inl ⟨_, hpe, hJs⟩⟩

theorem bw_stops (n : Nat) (hn : 1 ≤ n) (Bs n₀ : Nat) (B : Option Addr) (e : Nat) (ws : List Wt) (h120 : ws.length ≤ 120) (w : World) (hn0 : n₀ ≤ w.heap.size) (hB : Boxed w Bs 24 (.slice B ws.length e)) (hL : ∀ W', Below n₀ w W' → Lies W' B (wtCells ws)) :
    SeqStopsK Fence.wide n Try.prog 51 #[.pointer (some ⟨Bs, 0, none⟩)] encW (KpB n₀ Bs (.slice B ws.length e)) (fun ys => ys = bwl ws ws.length) (fun pre => pre <+: bwl ws ws.length) ws.length w := fun l J Jx W hW _ _ hY h0 =>
  bw_in n hn l Bs n₀ B e ws h120 J Jx hY W ((hW.block Bs hB.lt).trans hB) (fun W' h' => hL W' ((hW.mono hn0).trans h')) h0
end Go.Proofs.Ytimpdjlgfjehcaa
