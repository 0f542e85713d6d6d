/-
  slices.Backward over waiting writes.
  The latest text of a cell, as the program finds it.
-/
import Derived.Test.YtndckncoipkhaaaKW
import Derived.RangeFuncBox
import Derived.RangeFuncNested
import Derived.RangeFuncBound
import Derived.RangeFuncCalls
import Derived.RangeFuncLeaves
import Derived.Shelf.Abstract
import Derived.OwnWalkIn
import Derived.TacticsInMore
import Derived.LoopNIn
import Derived.LoopIn

namespace Go.Proofs.Ytndckncoipkhaaa
open Go.RowKit Go.Shelf

attribute [local go_sem] Oper.semAt_some

/-- The first k waiting writes with their places, from the last on. -/
def bwl (ws : List Wt) : Nat → List (Nat × Wt)
  | 0 => []
  | k + 1 => match ws[k]? with
    | some x => (k, x) :: bwl ws k
    | none => bwl ws k
theorem bwl_next (ws : List Wt) (k : Nat) (h : k < ws.length) : bwl ws (k + 1) = (k, ws[k]) :: bwl ws k := by simp [bwl, List.getElem?_eq_getElem h]
theorem rd_none (ws : List Wt) (n : Int) (z : ByteArray) (k : Nat) (hk : k ≤ ws.length) (h : ∀ y ∈ bwl ws k, y.2.num ≠ n) : rd ws n z k = z := by
  induction k with
  | zero => rfl
  | succ k ih =>
    rw [bwl_next ws k (by omega)] at h
    rw [rd_next ws n z k (by omega), if_neg (h (k, ws[k]) (by simp))]
    exact ih (by omega) (fun y hy => h y (by simp [hy]))
theorem rd_hit (ws : List Wt) (n : Int) (z : ByteArray) (k : Nat) (hk : k ≤ ws.length) (pre : List (Nat × Wt)) (x : Nat × Wt) (hp : pre ++ [x] <+: bwl ws k) (h : ∀ y ∈ pre, y.2.num ≠ n) (hx : x.2.num = n) : rd ws n z k = x.2.text := by
  induction k generalizing pre with
  | zero =>
    have := hp.length_le
    simp [bwl] at this
  | succ k ih =>
    rw [bwl_next ws k (by omega)] at hp
    rw [rd_next ws n z k (by omega)]
    cases pre with
    | nil =>
      obtain ⟨rest, hr⟩ := hp
      simp only [List.nil_append, List.cons_append, List.cons.injEq] at hr
      rw [hr.1] at hx ⊢
      rw [if_pos hx]
    | cons y pre =>
      obtain ⟨rest, hr⟩ := hp
      simp only [List.cons_append, List.cons.injEq] at hr
      have hy := h y (by simp)
      rw [hr.1] at hy
      rw [if_neg hy]
      exact ih (by omega) pre ⟨rest, hr.2⟩ (fun q hq => h q (by simp [hq]))
def encW (x : Nat × Wt) : Array Value := #[.int .i64 (x.1 : Int), .agg #[.int .i64 x.2.num, .string x.2.text]]
/-- What lay below n₀ and the box of the row stay. -/
def KpB (n₀ Bs : Nat) (v : Value) (W W' : World) : Prop := Below n₀ W W' ∧ (Boxed W Bs 58 v → Boxed W' Bs 58 v)

theorem backward (n : Nat) (A : Option Addr) (m c : Nat) (w : World) :
    CallsIn Fence.wide n Try.prog 100 #[.slice A m c] w fun e w' => e = .returned (.func (.func 128) #[] #[.pointer (some ⟨w.heap.size, 0, none⟩)]) ∧ w' = w.alloc (.cells #[.slice A m c] 58) := by
  refine callsIn_of_wp Try.func100 rfl trivial ?_ rfl
  simp only [Try.ntmps100, List.size_toArray, List.length_cons, List.length_nil, Nat.reduceAdd, Nat.reduceSub, Array.replicate_succ, Array.replicate_zero, List.push_toArray, List.append_toArray, List.nil_append, List.cons_append]
  gi_wp2
  go_ret
  exact ⟨rfl, rfl⟩

set_option maxRecDepth 100000 in
set_option maxHeartbeats 1000000 in
theorem bw_in (n : Nat) (hn : 1 ≤ n) (l Bs n₀ : Nat) (B : Option Addr) (e : Nat) (ws : List Wt) (h120 : ws.length ≤ 120) (J Jx : List (Nat × Wt) → World → Prop)
    (hY : ∀ pre x W, J pre W → pre.length < ws.length → YieldAt Fence.wide (n - 1) Try.prog l (encW x) W fun r W' =>
      (r = .returned (.bool true) ∧ J (pre ++ [x]) W' ∧ KpB n₀ Bs (.slice B ws.length e) W W') ∨ (r = .returned (.bool false) ∧ Jx (pre ++ [x]) W'))
    (W : World) (hB : Boxed W Bs 58 (.slice B ws.length e)) (hL : ∀ W', Below n₀ W W' → Lies W' B (wtCells ws)) (h0 : J [] W) :
    CallsIn Fence.wide n Try.prog 128 #[.func (.yield l) #[] #[], .pointer (some ⟨Bs, 0, none⟩)] W fun r W' => (∃ v, r = .returned v) ∧
      ((∃ ys, ys = bwl ws ws.length ∧ J ys W') ∨ (∃ pre, pre <+: bwl ws ws.length ∧ Jx pre W')) := by
  refine callsIn_of_wp Try.func128 rfl trivial ?_ rfl
  simp only [Try.ntmps128, List.size_toArray, List.length_cons, List.length_nil, Nat.reduceAdd, Nat.reduceSub, Array.replicate_succ, Array.replicate_zero, List.push_toArray, List.append_toArray, List.nil_append, List.cons_append]
  have hc0 := hB.cell
  have hw0 := IntWalk.i64_in ((ws.length : Int) - 1) (by omega)
  gi_wp2
  gi_loopw [3] (fun i wr => ∃ (k : Nat) (pre : List (Nat × Wt)), k ≤ ws.length ∧ i = .int .i64 ((k : Int) - 1) ∧ pre ++ bwl ws k = bwl ws ws.length ∧ pre.length + k = ws.length ∧ Boxed wr Bs 58 (.slice B ws.length e) ∧ Below n₀ W wr ∧ J pre wr)
    (fun i _ => (intOf i + 1).toNat)
  case atStart => exact ⟨ws.length, [], Nat.le_refl _, rfl, rfl, by simp, hB, Below.refl _ _, h0⟩
  case round =>
    clear hc0 hw0
    obtain ⟨k, pre, hk, rfl, hp, hpl, hbx, hbl, hJs⟩ := hrel
    have hcx := hbx.cell
    by_cases hk0 : 0 < k
    · obtain ⟨i, rfl⟩ : ∃ i, k = i + 1 := ⟨k - 1, by omega⟩
      have hi : i < ws.length := by omega
      obtain ⟨b, off, rfl, hlb, y0, y1⟩ := (hL wr hbl).wt i hi
      rw [bwl_next ws i hi] at hp
      obtain ⟨fn, tmps, assign, body, hy, hR⟩ := hY pre (i, ws[i]) wr hJs (by omega)
      dsimp only [encW] at hy
      have hcast : ((i + 1 : Nat) : Int) - 1 = (i : Int) := by omega
      rw [hcast]
      have hilt : (i : Int) < (ws.length : Int) := by omega
      have hw1 := IntWalk.i64_in ((i : Int) - 1) (by omega)
      have HP := Lib.hid hp
      clear hp hcast
      gi_wp2
      refine hR.mono ?_
      rintro r W3 (⟨rfl, hJ3, hk3, hk4⟩ | ⟨rfl, hJx3⟩)
      · have hb3 := hk4 hbx
        gi_wp2
        go_roundw
        case rel => exact ⟨i, _, by omega, rfl, by rw [List.append_assoc]; exact HP.out, by simp; omega, hb3, hbl.trans hk3, hJ3⟩
        case measure => simp [intOf]
      · gi_wp2
        refine bodyPost_ret (results_none rfl _ _ _) rfl ?_
        exact ⟨⟨_, rfl⟩, .inr ⟨_, ⟨bwl ws i, by rw [List.append_assoc]; exact HP.out⟩, hJx3⟩⟩
    · obtain rfl : k = 0 := by omega
      have hpe : pre = bwl ws ws.length := by rw [← hp]; simp [bwl]
      have hcz : ((0 : Nat) : Int) - 1 = -1 := rfl
      rw [hcz]
      clear hcz hp
      gi_wp2
      go_end0
      exact ⟨⟨_, rfl⟩, .inl ⟨_, hpe, hJs⟩⟩

theorem bw_stops (n : Nat) (hn : 1 ≤ n) (Bs n₀ : Nat) (B : Option Addr) (e : Nat) (ws : List Wt) (h120 : ws.length ≤ 120) (w : World) (hn0 : n₀ ≤ w.heap.size) (hB : Boxed w Bs 58 (.slice B ws.length e)) (hL : ∀ W', Below n₀ w W' → Lies W' B (wtCells ws)) :
    SeqStopsK Fence.wide n Try.prog 128 #[.pointer (some ⟨Bs, 0, none⟩)] encW (KpB n₀ Bs (.slice B ws.length e)) (fun ys => ys = bwl ws ws.length) (fun pre => pre <+: bwl ws ws.length) ws.length w := fun l J Jx W hW _ _ hY h0 =>
  bw_in n hn l Bs n₀ B e ws h120 J Jx hY W ((hW.block Bs hB.lt).trans hB) (fun W' h' => hL W' ((hW.mono hn0).trans h')) h0
end Go.Proofs.Ytndckncoipkhaaa

namespace Go.Proofs.Ytndckncoipkhaaa
open Go.RowKit Go.Shelf

attribute [local go_sem] Oper.semAt_some

theorem block_own {β : Type} (g : Nat) (cs : Array Value) (t : TypeId) : Own (fun (_ : β) W => W.heap[g]? = some (.cells cs t (0, 0))) := fun s X Y row hs hg hrow =>
  (hg.block g (Array.getElem?_eq_some_iff.1 hs).1 (fun e => by
    obtain ⟨o, ho, hc⟩ := hrow g e.symm
    rw [hs] at ho; cases ho; cases hc)).trans hs
theorem bx_own {β : Type} (g : Nat) (t : TypeId) (x y z : Value) : Own (fun (_ : β) W => Bx W g t x y z) := block_own g _ t
/-- The last of pre is the first whose number is n, and t is its text. -/
def Hit (n : Int) (pre : List (Nat × Wt)) (t : ByteArray) : Prop := ∃ (p : List (Nat × Wt)) (x : Nat × Wt), pre = p ++ [x] ∧ (∀ y ∈ p, y.2.num ≠ n) ∧ x.2.num = n ∧ x.2.text = t
/-- A box of two cells. -/
def B2 (W : World) (g : Nat) (t : TypeId) (x y : Value) : Prop := W.heap[g]? = some (.cells #[x, y] t (0, 0))
theorem B2.cells {W : World} {g : Nat} {t : TypeId} {x y : Value} (h : B2 W g t x y) : W.cell? ⟨g, 0, none⟩ = some x ∧ W.cell? ⟨g, 1, none⟩ = some y := by
  unfold B2 at h
  simp [World.cell?, h]

set_option maxRecDepth 100000 in
set_option maxHeartbeats 4000000 in
theorem impl_latest (A B : Option Addr) (c e : Nat) (cs : List ByteArray) (ws : List Wt) (g : Bool) (k : Nat) (w : World) (h64 : cs.length = 64) (h120 : ws.length ≤ 120) (hk : k < 64) (hA : DkAt w A B ⟨cs, ws, g⟩) :
    Calls Try.prog 64 #[.agg #[.slice A cs.length c, .slice B ws.length e, .bool g], .int .i64 k] w fun r w' => r = .returned (.string (rd ws (k : Int) (cs.getD k none8) ws.length)) ∧ Below w.heap.size w w' := by
  have H64 := Lib.hid h64
  clear h64
  refine (callsIn_wide (n := 5)).1 ?_
  refine callsIn_of_wp_marks Try.func64 rfl trivial ?_ rfl
  simp only [Try.ntmps64, List.size_toArray, List.length_cons, List.length_nil, Nat.reduceAdd, Nat.reduceSub, Array.replicate_succ, Array.replicate_zero, List.push_toArray, List.append_toArray, List.nil_append, List.cons_append]
  gi_wp2_with (refine ⟨trivial, ?_⟩; gi_at_call 100; refine (backward _ _ _ _ _).mono ?_; rintro r w' ⟨rfl, rfl⟩)
  have bD := ((Bx.new w 60 (.slice A cs.length c) (.slice B ws.length e) (.bool g)).alloc (.cells #[.int .i64 k] 3)).alloc (.cells #[.string ⟨#[]⟩] 9) |>.alloc (.cells #[.slice B ws.length e] 58)
  have bN := ((Boxed.new (w.alloc (.cells #[.slice A cs.length c, .slice B ws.length e, .bool g] 60)) 3 (.int .i64 k)).alloc (.cells #[.string ⟨#[]⟩] 9)).alloc (.cells #[.slice B ws.length e] 58)
  have bR := (Boxed.new ((w.alloc (.cells #[.slice A cs.length c, .slice B ws.length e, .bool g] 60)).alloc (.cells #[.int .i64 k] 3)) 9 (.string ⟨#[]⟩)).alloc (.cells #[.slice B ws.length e] 58)
  have bS := Boxed.new (((w.alloc (.cells #[.slice A cs.length c, .slice B ws.length e, .bool g] 60)).alloc (.cells #[.int .i64 k] 3)).alloc (.cells #[.string ⟨#[]⟩] 9)) 58 (.slice B ws.length e)
  simp only [World.size_alloc] at bN bR bS
  have hB0 := bel_new (bel_new (bel_new (bel_new (Below.refl _ w) (.cells #[.slice A cs.length c, .slice B ws.length e, .bool g] 60)) (.cells #[.int .i64 k] 3)) (.cells #[.string ⟨#[]⟩] 9)) (.cells #[.slice B ws.length e] 58)
  have hsz : ((((w.alloc (.cells #[.slice A cs.length c, .slice B ws.length e, .bool g] 60)).alloc (.cells #[.int .i64 k] 3)).alloc (.cells #[.string ⟨#[]⟩] 9)).alloc (.cells #[.slice B ws.length e] 58)).heap.size = w.heap.size + 4 := by simp
  obtain ⟨W0, hW0⟩ : ∃ W0, (((w.alloc (.cells #[.slice A cs.length c, .slice B ws.length e, .bool g] 60)).alloc (.cells #[.int .i64 k] 3)).alloc (.cells #[.string ⟨#[]⟩] 9)).alloc (.cells #[.slice B ws.length e] 58) = W0 := ⟨_, rfl⟩
  rw [hW0] at bD bN bR bS hB0 hsz ⊢
  clear hW0
  refine wpIn_rangeFunc_ownH rfl (by omega) (gf := 128) (lb := #[.pointer (some ⟨w.heap.size + 1 + 1 + 1, 0, none⟩)]) rfl trivial (enters_of Try.func128 (by kernel_rfl) rfl)
    (bw_stops _ (by omega) (w.heap.size + 1 + 1 + 1) w.heap.size B e ws h120 W0 (by omega) bS (fun W' h' => (hA.below (hB0.trans h')).2)) ?kt ?kb (Below.refl _ _) (fun _ => rfl)
    (fun pre W => ((Bx W w.heap.size 60 (.slice A cs.length c) (.slice B ws.length e) (.bool g) ∧ Boxed W (w.heap.size + 1) 3 (.int .i64 k)) ∧ Boxed W (w.heap.size + 1 + 1) 9 (.string ⟨#[]⟩)) ∧ ((∀ y ∈ pre, y.2.num ≠ (k : Int)) ∧ Below w.heap.size W0 W))
    (fun cd pre W => ∃ t, (Boxed W (w.heap.size + 1 + 1) 9 (.string t) ∧ Below w.heap.size w W) ∧ cd = .ret ∧ Hit k pre t)
    (OwnFrom.and (OwnFrom.and (OwnFrom.and (Own.from (bx_own _ _ _ _ _) _) (Own.from (boxed_own _ _ _) _)) (Own.from (boxed_own _ _ _) _)) (OwnFrom.and (ownFrom_pure _ _) (ownFrom_below (by omega) (by omega))))
    (fun cd pre X Y row hs hg hr => by
      obtain ⟨t, ⟨h1, h2⟩, h3⟩ := hs
      exact ⟨t, ⟨boxed_own _ 9 (fun (_ : Unit) => Value.string t) () X Y row h1 hg (fun r e => (hr r e).2), ownFrom_below (β := Unit) (Nat.le_refl _) (by omega) () X Y row h2 hg hr⟩, h3⟩)
    ⟨⟨⟨bD, bN⟩, bR⟩, (fun y hy => by cases hy), Below.refl _ _⟩
    (fun x a' W => ∃ Bw, w.heap.size + 4 ≤ Bw ∧ B2 W Bw 94 (.int .i64 x.2.num) (.string x.2.text) ∧ a' = { tmps := #[.agg #[.slice A cs.length c, .slice B ws.length e, .bool g], .int .i64 k, .pointer (some ⟨w.heap.size, 0, none⟩), .pointer (some ⟨w.heap.size + 1, 0, none⟩), .pointer (some ⟨w.heap.size + 1 + 1, 0, none⟩), undef, .pointer (some ⟨Bw, 0, none⟩), .pointer (some ⟨w.heap.size, 1, none⟩), .slice B ws.length e, .func (.func 128) #[] #[.pointer (some ⟨w.heap.size + 1 + 1 + 1, 0, none⟩)], .int .i64 (x.1 : Int), .agg #[.int .i64 x.2.num, .string x.2.text], undef, undef, undef, undef, undef, undef, undef, undef, undef, undef, undef], defers := [] })
    (fun x a' _ X Y row hs hg hr => by obtain ⟨Bw, h1, h2, h3⟩ := hs; exact ⟨Bw, h1, block_own (β := Unit) Bw _ 94 () X Y row h2 hg (fun r e => (hr r e).2), h3⟩)
    ?assign ?body ?done ?stop
  case kt => exact fun h k => ⟨h.1.trans k.1, fun q => k.2 (h.2 q)⟩
  case kb =>
    intro W l o o' hl hlo ho hw
    refine ⟨belowK_b (w := W0) (by omega) W l o o' hl hlo ho hw, fun hb => hb.kept (grownBy_putObj' W l o') (fun e => ?_)⟩
    cases e
    rw [show W.heap[_]? = _ from hb] at hlo
    cases hlo
    cases ho
  case assign =>
    rintro l pre x W K ⟨⟨⟨bD1, bN1⟩, bR1⟩, hP1, hB1⟩ hK
    have hs4 := hB1.size
    dsimp only [encW]
    gi_wp2
    exact hK _ _ ((KeepsOthers.alloc _ _).from _) ⟨(Below.refl _ W).alloc (by omega) _, fun q => q.alloc _⟩ ⟨⟨⟨bD1.alloc _, bN1.alloc _⟩, bR1.alloc _⟩, hP1, hB1.alloc (by omega) _⟩ ⟨W.heap.size, by omega, heap_alloc_new W _, rfl⟩
  case body =>
    rintro l pre x a' W hl hr ⟨⟨⟨bD1, bN1⟩, bR1⟩, hP1, hB1⟩ ⟨Bw, hBw, bW, rfl⟩ hlt
    obtain ⟨c0, c1⟩ := bW.cells
    have cN := bN1.cell
    have cR := bR1.cell
    have fR := bR1.frozen
    by_cases hx : x.2.num = (k : Int)
    · have hx' : (x.2.num == (k : Int)) = true := by simpa using hx
      have HX := Lib.hid hx
      clear hx
      gi_wp2
      exact ⟨(KeepsOthers.setCell _ _ _).from _, x.2.text, ⟨bR1.set _, hB0.trans (hB1.setCell (p := ⟨w.heap.size + 1 + 1, 0, none⟩) (by simp; omega) _)⟩, rfl, pre, x, rfl, hP1, HX.out, rfl⟩
    · have hx' : (x.2.num == (k : Int)) = false := by simpa using hx
      have HX := Lib.hid hx
      clear hx
      gi_wp2
      refine ⟨KeepsFrom.refl _ _, ⟨Below.refl _ _, fun q => q⟩, ⟨⟨bD1, bN1⟩, bR1⟩, fun y hy => ?_, hB1⟩
      rcases List.mem_append.1 hy with h | h
      · exact hP1 y h
      · obtain rfl : y = x := by simpa using h
        exact HX.out
  case done =>
    rintro D zs W hD rfl ⟨⟨⟨bD1, bN1⟩, bR1⟩, hP1, hB1⟩ hK
    have hBw := hB0.trans hB1
    obtain ⟨⟨d0, d1, d2⟩, _⟩ := bD1.cells
    have cN := bN1.cell
    have cR := bR1.cell
    have fR := bR1.frozen
    have hkc : k < cs.length := by have := H64.out; omega
    obtain ⟨bA, oA, rfl, hbA, hcA⟩ := (hA.below hBw).1.str k hkc
    have hz : cs.getD k none8 = cs[k] := by rw [List.getD_eq_getElem?_getD, List.getElem?_eq_getElem hkc]; rfl
    have hrd := rd_none ws (k : Int) (cs.getD k none8) ws.length (Nat.le_refl _) hP1
    rw [hz] at hrd
    obtain ⟨z, hzz⟩ : ∃ z, z = cs[k] := ⟨_, rfl⟩
    rw [← hzz] at hcA hrd
    have hkI : (k : Int) < (cs.length : Int) := by omega
    have hkI0 : (0 : Int) ≤ (k : Int) := by omega
    have HR := Lib.hid hrd
    have HZ := Lib.hid hz
    have HZZ := Lib.hid hzz
    clear hrd hz hzz hP1
    gi_wp2
    have hK' := (KeepsOthers.setCell W ⟨w.heap.size + 1 + 1, 0, none⟩ (.string z)).same D _ hK rfl
    refine ⟨by simp, .inl ⟨_, _, rfl, run_takeDeferred hK', ?_⟩⟩
    have hc5 := cell_kept (bR1.set (.string z)).cell (grownBy_putObj' _ D (.deferred none)) (fun r e => by cases e; exact ⟨_, hK', rfl⟩)
    refine ⟨.string z, ?_, by rw [HZ.out, ← HZZ.out, HR.out], (hBw.setCell (p := ⟨w.heap.size + 1 + 1, 0, none⟩) (by simp; omega) _).trans (belowK_b (w := w) (Nat.le_refl _) _ D _ _ (by omega) hK' rfl rfl)⟩
    simp [results, Try.f64, go_sem, hc5]
  case stop =>
    rintro D cd pre W hD hpre ⟨t, ⟨bR1, hB1⟩, rfl, p, x, rfl, hp, hx, rfl⟩ hK
    have hrd := rd_hit ws (k : Int) (cs.getD k none8) ws.length (Nat.le_refl _) p x hpre hp hx
    have HR := Lib.hid hrd
    clear hrd
    gi_wp2
    refine ⟨by simp, .inl ⟨_, _, rfl, run_takeDeferred hK, ?_⟩⟩
    have hc5 := cell_kept bR1.cell (grownBy_putObj' _ D (.deferred none)) (fun r e => by cases e; exact ⟨_, hK, rfl⟩)
    refine ⟨.string x.2.text, ?_, by rw [HR.out], hB1.trans (belowK_b (w := w) (Nat.le_refl _) W D _ _ (by omega) hK rfl rfl)⟩
    simp [results, Try.f64, go_sem, hc5]
end Go.Proofs.Ytndckncoipkhaaa
