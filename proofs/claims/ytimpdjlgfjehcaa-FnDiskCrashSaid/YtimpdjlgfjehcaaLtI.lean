/-
  The latest text of a cell, as the program finds it.
-/
import Derived.Test.YtimpdjlgfjehcaaBwI
namespace Go.Proofs.Ytimpdjlgfjehcaa
open Go.RowKit Go.Shelf

attribute [local go_sem] Oper.semAt_some

theorem block_own {β : Type} (g : Nat) (cs : Array Value) (t : TypeId) : Own (fun (_ : β) W => W.heap[g]? = some (.cells cs t (0, 0))) := fun s X Y row hs hg hrow =>
  (hg.block g (Array.getElem?_eq_some_iff.1 hs).1 (fun e => by
    obtain ⟨o, ho, hc⟩ := hrow g e.symm
    rw [hs] at ho; cases ho; cases hc)).trans hs
theorem bx_own {β : Type} (g : Nat) (t : TypeId) (x y z : Value) : Own (fun (_ : β) W => Bx W g t x y z) := block_own g _ t
/-- The last of pre is the first whose number is n, and t is its text. -/
def Hit (n : Int) (pre : List (Nat × Wt)) (t : ByteArray) : Prop := ∃ (p : List (Nat × Wt)) (x : Nat × Wt), pre = p ++ [x] ∧ (∀ y ∈ p, y.2.num ≠ n) ∧ x.2.num = n ∧ x.2.text = t
/-- A box of two cells. -/
def B2 (W : World) (g : Nat) (t : TypeId) (x y : Value) : Prop := W.heap[g]? = some (.cells #[x, y] t (0, 0))
theorem B2.cells {W : World} {g : Nat} {t : TypeId} {x y : Value} (h : B2 W g t x y) : W.cell? ⟨g, 0, none⟩ = some x ∧ W.cell? ⟨g, 1, none⟩ = some y := by
  unfold B2 at h
  simp [World.cell?, h]

set_option maxRecDepth 100000 in
set_option maxHeartbeats 4000000 in
theorem impl_latest (A B : Option Addr) (c e : Nat) (cs : List ByteArray) (ws : List Wt) (g : Bool) (k : Nat) (w : World) (h64 : cs.length = 64) (h120 : ws.length ≤ 120) (hk : k < 64) (hA : DkAt w A B ⟨cs, ws, g⟩) :
    Calls Try.prog 37 #[.agg #[.slice A cs.length c, .slice B ws.length e, .bool g], .int .i64 k] w fun r w' => r = .returned (.string (rd ws (k : Int) (cs.getD k none8) ws.length)) ∧ Below w.heap.size w w' := by
  have H64 := Lib.hid h64
  clear h64
  refine (callsIn_wide (n := 5)).1 ?_
  refine callsIn_of_wp_marks Try.func37 rfl trivial ?_ rfl
  simp only [Try.ntmps37, List.size_toArray, List.length_cons, List.length_nil, Nat.reduceAdd, Nat.reduceSub, Array.replicate_succ, Array.replicate_zero, List.push_toArray, List.append_toArray, List.nil_append, List.cons_append]
  gi_wp2_with (refine ⟨trivial, ?_⟩; gi_at_call 50; refine (backward _ _ _ _ _).mono ?_; rintro r w' ⟨rfl, rfl⟩)
  have bD := ((Bx.new w 26 (.slice A cs.length c) (.slice B ws.length e) (.bool g)).alloc (.cells #[.int .i64 k] 3)).alloc (.cells #[.string ⟨#[]⟩] 9) |>.alloc (.cells #[.slice B ws.length e] 24)
  have bN := ((Boxed.new (w.alloc (.cells #[.slice A cs.length c, .slice B ws.length e, .bool g] 26)) 3 (.int .i64 k)).alloc (.cells #[.string ⟨#[]⟩] 9)).alloc (.cells #[.slice B ws.length e] 24)
  have bR := (Boxed.new ((w.alloc (.cells #[.slice A cs.length c, .slice B ws.length e, .bool g] 26)).alloc (.cells #[.int .i64 k] 3)) 9 (.string ⟨#[]⟩)).alloc (.cells #[.slice B ws.length e] 24)
  have bS := Boxed.new (((w.alloc (.cells #[.slice A cs.length c, .slice B ws.length e, .bool g] 26)).alloc (.cells #[.int .i64 k] 3)).alloc (.cells #[.string ⟨#[]⟩] 9)) 24 (.slice B ws.length e)
  simp only [World.size_alloc] at bN bR bS
  have hB0 := bel_new (bel_new (bel_new (bel_new (Below.refl _ w) (.cells #[.slice A cs.length c, .slice B ws.length e, .bool g] 26)) (.cells #[.int .i64 k] 3)) (.cells #[.string ⟨#[]⟩] 9)) (.cells #[.slice B ws.length e] 24)
  have hsz : ((((w.alloc (.cells #[.slice A cs.length c, .slice B ws.length e, .bool g] 26)).alloc (.cells #[.int .i64 k] 3)).alloc (.cells #[.string ⟨#[]⟩] 9)).alloc (.cells #[.slice B ws.length e] 24)).heap.size = w.heap.size + 4 := by simp
  obtain ⟨W0, hW0⟩ : ∃ W0, (((w.alloc (.cells #[.slice A cs.length c, .slice B ws.length e, .bool g] 26)).alloc (.cells #[.int .i64 k] 3)).alloc (.cells #[.string ⟨#[]⟩] 9)).alloc (.cells #[.slice B ws.length e] 24) = W0 := ⟨_, rfl⟩
  rw [hW0] at bD bN bR bS hB0 hsz ⊢
  clear hW0
  refine wpIn_rangeFunc_ownH rfl (by omega) (gf := 51) (lb := #[.pointer (some ⟨w.heap.size + 1 + 1 + 1, 0, none⟩)]) rfl trivial (enters_of Try.func51 (by kernel_rfl) rfl)
    (bw_stops _ (by omega) (w.heap.size + 1 + 1 + 1) w.heap.size B e ws h120 W0 (by omega) bS (fun W' h' => (hA.below (hB0.trans h')).2)) ?kt ?kb (Below.refl _ _) (fun _ => rfl)
    (fun pre W => ((Bx W w.heap.size 26 (.slice A cs.length c) (.slice B ws.length e) (.bool g) ∧ Boxed W (w.heap.size + 1) 3 (.int .i64 k)) ∧ Boxed W (w.heap.size + 1 + 1) 9 (.string ⟨#[]⟩)) ∧ ((∀ y ∈ pre, y.2.num ≠ (k : Int)) ∧ Below w.heap.size W0 W))
    (fun cd pre W => ∃ t, (Boxed W (w.heap.size + 1 + 1) 9 (.string t) ∧ Below w.heap.size w W) ∧ cd = .ret ∧ Hit k pre t)
    (OwnFrom.and (OwnFrom.and (OwnFrom.and (Own.from (bx_own _ _ _ _ _) _) (Own.from (boxed_own _ _ _) _)) (Own.from (boxed_own _ _ _) _)) (OwnFrom.and (ownFrom_pure _ _) (ownFrom_below (by omega) (by omega))))
    (fun cd pre X Y row hs hg hr => by
      obtain ⟨t, ⟨h1, h2⟩, h3⟩ := hs
      exact ⟨t, ⟨boxed_own _ 9 (fun (_ : Unit) => Value.string t) () X Y row h1 hg (fun r e => (hr r e).2), ownFrom_below (β := Unit) (Nat.le_refl _) (by omega) () X Y row h2 hg hr⟩, h3⟩)
    ⟨⟨⟨bD, bN⟩, bR⟩, (fun y hy => by cases hy), Below.refl _ _⟩
    (fun x a' W => ∃ Bw, w.heap.size + 4 ≤ Bw ∧ B2 W Bw 32 (.int .i64 x.2.num) (.string x.2.text) ∧ a' = { tmps := #[.agg #[.slice A cs.length c, .slice B ws.length e, .bool g], .int .i64 k, .pointer (some ⟨w.heap.size, 0, none⟩), .pointer (some ⟨w.heap.size + 1, 0, none⟩), .pointer (some ⟨w.heap.size + 1 + 1, 0, none⟩), undef, .pointer (some ⟨Bw, 0, none⟩), .pointer (some ⟨w.heap.size, 1, none⟩), .slice B ws.length e, .func (.func 51) #[] #[.pointer (some ⟨w.heap.size + 1 + 1 + 1, 0, none⟩)], .int .i64 (x.1 : Int), .agg #[.int .i64 x.2.num, .string x.2.text], undef, undef, undef, undef, undef, undef, undef, undef, undef, undef, undef], defers := [] })
    (fun x a' _ X Y row hs hg hr => by obtain ⟨Bw, h1, h2, h3⟩ := hs; exact ⟨Bw, h1, block_own (β := Unit) Bw _ 32 () X Y row h2 hg (fun r e => (hr r e).2), h3⟩)
    ?assign ?body ?done ?stop
  case kt => exact fun h k => ⟨h.1.trans k.1, fun q => k.2 (h.2 q)⟩
  case kb =>
    intro W l o o' hl hlo ho hw
    refine ⟨belowK_b (w := W0) (by omega) W l o o' hl hlo ho hw, fun hb => hb.kept (grownBy_putObj' W l o') (fun e => ?_)⟩
    cases e
    rw [show W.heap[_]? = _ from hb] at hlo
    cases hlo
    cases ho
  case assign =>
    rintro l pre x W K ⟨⟨⟨bD1, bN1⟩, bR1⟩, hP1, hB1⟩ hK
    have hs4 := hB1.size
    dsimp only [encW]
    gi_wp2
    exact hK _ _ ((KeepsOthers.alloc _ _).from _) ⟨(Below.refl _ W).alloc (by omega) _, fun q => q.alloc _⟩ ⟨⟨⟨bD1.alloc _, bN1.alloc _⟩, bR1.alloc _⟩, hP1, hB1.alloc (by omega) _⟩ ⟨W.heap.size, by omega, heap_alloc_new W _, rfl⟩
  case body =>
    rintro l pre x a' W hl hr ⟨⟨⟨bD1, bN1⟩, bR1⟩, hP1, hB1⟩ ⟨Bw, hBw, bW, rfl⟩ hlt
    obtain ⟨c0, c1⟩ := bW.cells
    have cN := bN1.cell
    have cR := bR1.cell
    have fR := bR1.frozen
    by_cases hx : x.2.num = (k : Int)
    · have hx' : (x.2.num == (k : Int)) = true := by simpa using hx
      have HX := Lib.hid hx
      clear hx
      gi_wp2
      exact ⟨(KeepsOthers.setCell _ _ _).from _, x.2.text, ⟨bR1.set _, hB0.trans (hB1.setCell (p := ⟨w.heap.size + 1 + 1, 0, none⟩) (by simp; omega) _)⟩, rfl, pre, x, rfl, hP1, HX.out, rfl⟩
    · have hx' : (x.2.num == (k : Int)) = false := by simpa using hx
      have HX := Lib.hid hx
      clear hx
      gi_wp2
      refine ⟨KeepsFrom.refl _ _, ⟨Below.refl _ _, fun q => q⟩, ⟨⟨bD1, bN1⟩, bR1⟩, fun y hy => ?_, hB1⟩
      rcases List.mem_append.1 hy with h | h
      · exact hP1 y h
      · obtain rfl : y = x := by simpa using h
        exact HX.out
  case done =>
    rintro D zs W hD rfl ⟨⟨⟨bD1, bN1⟩, bR1⟩, hP1, hB1⟩ hK
    have hBw := hB0.trans hB1
    obtain ⟨⟨d0, d1, d2⟩, _⟩ := bD1.cells
    have cN := bN1.cell
    have cR := bR1.cell
    have fR := bR1.frozen
    have hkc : k < cs.length := by have := H64.out; omega
    obtain ⟨bA, oA, rfl, hbA, hcA⟩ := (hA.below hBw).1.str k hkc
    have hz : cs.getD k none8 = cs[k] := by rw [List.getD_eq_getElem?_getD, List.getElem?_eq_getElem hkc]; rfl
    have hrd := rd_none ws (k : Int) (cs.getD k none8) ws.length (Nat.le_refl _) hP1
    rw [hz] at hrd
    obtain ⟨z, hzz⟩ : ∃ z, z = cs[k] := ⟨_, rfl⟩
    rw [← hzz] at hcA hrd
    have hkI : (k : Int) < (cs.length : Int) := by omega
    have hkI0 : (0 : Int) ≤ (k : Int) := by omega
    have HR := Lib.hid hrd
    have HZ := Lib.hid hz
    have HZZ := Lib.hid hzz
    clear hrd hz hzz hP1
    gi_wp2
    have hK' := (KeepsOthers.setCell W ⟨w.heap.size + 1 + 1, 0, none⟩ (.string z)).same D _ hK rfl
    refine ⟨by simp, .inl ⟨_, _, rfl, run_takeDeferred hK', ?_⟩⟩
    have hc5 := cell_kept (bR1.set (.string z)).cell (grownBy_putObj' _ D (.deferred none)) (fun r e => by cases e; exact ⟨_, hK', rfl⟩)
    refine ⟨.string z, ?_, by rw [HZ.out, ← HZZ.out, HR.out], (hBw.setCell (p := ⟨w.heap.size + 1 + 1, 0, none⟩) (by simp; omega) _).trans (belowK_b (w := w) (Nat.le_refl _) _ D _ _ (by omega) hK' rfl rfl)⟩
    simp [results, Try.f37, go_sem, hc5]
  case stop =>
    rintro D cd pre W hD hpre ⟨t, ⟨bR1, hB1⟩, rfl, p, x, rfl, hp, hx, rfl⟩ hK
    have hrd := rd_hit ws (k : Int) (cs.getD k none8) ws.length (Nat.le_refl _) p x hpre hp hx
    have HR := Lib.hid hrd
    clear hrd
    gi_wp2
    refine ⟨by simp, .inl ⟨_, _, rfl, run_takeDeferred hK, ?_⟩⟩
    have hc5 := cell_kept bR1.cell (grownBy_putObj' _ D (.deferred none)) (fun r e => by cases e; exact ⟨_, hK, rfl⟩)
    refine ⟨.string x.2.text, ?_, by rw [HR.out], hB1.trans (belowK_b (w := w) (Nat.le_refl _) W D _ _ (by omega) hK rfl rfl)⟩
    simp [results, Try.f37, go_sem, hc5]
end Go.Proofs.Ytimpdjlgfjehcaa
