/-
  What FnSpaceTake draws.
-/
import Derived.Test.YtlmemjfinpccoaaDrO
namespace Go.Proofs.Ytlmemjfinpccoaa
open Go.RowKit

def takeLit : Nat → Int
  | 0 => 1
  | 1 => 2
  | 2 => 3
  | 3 => 5
  | 4 => 9
  | 5 => 0
  | 6 => 900
  | _ => 901
theorem takeLit_at (j : Nat) (hj : j < 8) : (#[.int .i64 1, .int .i64 2, .int .i64 3, .int .i64 5, .int .i64 9, .int .i64 0, .int .i64 900, .int .i64 901] : Array Value)[j]? = some (.int .i64 (takeLit j)) := by
  match j, hj with
  | 0, _ => rfl
  | 1, _ => rfl
  | 2, _ => rfl
  | 3, _ => rfl
  | 4, _ => rfl
  | 5, _ => rfl
  | 6, _ => rfl
  | 7, _ => rfl
theorem takeLit_lst (j : Nat) (hj : j < 8) (h) : ([.int .i64 1, .int .i64 2, .int .i64 3, .int .i64 5, .int .i64 9, .int .i64 0, .int .i64 900, .int .i64 901] : List Value)[j]'h = .int .i64 (takeLit j) := by
  match j, hj with
  | 0, _ => rfl
  | 1, _ => rfl
  | 2, _ => rfl
  | 3, _ => rfl
  | 4, _ => rfl
  | 5, _ => rfl
  | 6, _ => rfl
  | 7, _ => rfl
theorem takeLit_in (j : Nat) (hj : j < 8) : 0 ≤ takeLit j ∧ takeLit j ≤ 901 := by
  match j, hj with
  | 0, _ => decide
  | 1, _ => decide
  | 2, _ => decide
  | 3, _ => decide
  | 4, _ => decide
  | 5, _ => decide
  | 6, _ => decide
  | 7, _ => decide
abbrev TLit (W : World) (B g : Nat) : Prop := LitK W B g (fun j => .int .i64 (takeLit j)) 8
theorem TLit.at_ {W : World} {B g j : Nat} (h : TLit W B g) (hj : j < 8) : W.cell? ⟨g, j, none⟩ = some (.int .i64 (takeLit j)) := h.cell j hj
theorem TLit.ne_out {W : World} {B g k : Nat} {T : TypeId} {A1 A2 : Option Addr} {n c m e : Nat} (h : TLit W B g) (hb : B2 W k T (.slice A1 n c) (.slice A2 m e)) : g ≠ k := fun e => by
  subst e
  have a := h.at_ (j := 0) (by omega)
  rw [hb.cells.1.1] at a
  cases a
theorem TLit.at2 {W : World} {B g j k : Nat} (h : TLit W B g) (hj : j < 8) (hn : g ≠ k) (a b : Value) : ((W.setCell ⟨k, 0, none⟩ a).setCell ⟨k, 1, none⟩ b).cell? ⟨g, j, none⟩ = some (.int .i64 (takeLit j)) :=
  (World.cell?_of_block (a := ⟨g, j, none⟩) ((Below.heap_setCell _ ⟨k, 1, none⟩ _ g hn).trans (Below.heap_setCell _ ⟨k, 0, none⟩ _ g hn))).trans (h.at_ hj)
theorem tlit_after {W W' : World} {B : Nat} {T : TypeId} (g : (W.alloc (.cells #[.int .i64 1, .int .i64 2, .int .i64 3, .int .i64 5, .int .i64 9, .int .i64 0, .int .i64 900, .int .i64 901] T)).grownBy W' (some B)) (hB : B < W.heap.size) : TLit W' B W.heap.size :=
  (LitK.new W _ _ T takeLit_at hB).grown g
theorem tlit_afterD {W W' : World} {B : Nat} {T : TypeId} (g : (W.alloc (.cells #[.int .i64 1, .int .i64 2, .int .i64 3, .int .i64 5, .int .i64 9, .int .i64 0, .int .i64 900, .int .i64 901] T)).drew.grownBy W' (some B)) (hB : B < W.heap.size) : TLit W' B W.heap.size :=
  tlit_after (W := W) ⟨g.os, g.tape, g.output, g.size, g.block⟩ hB
theorem tlit_new (j : Nat) (hj : j < 8) (W : World) : (W.alloc (.cells #[.int .i64 1, .int .i64 2, .int .i64 3, .int .i64 5, .int .i64 9, .int .i64 0, .int .i64 900, .int .i64 901] 3)).cell? ⟨W.heap.size, j, none⟩ = some (.int .i64 (takeLit j)) := by
  rw [World.cell?_alloc_mark]
  exact takeLit_at j hj
theorem DrS2.alloc {w W : World} {r : Ending} (h : DrS2 w r W) (o : Obj) : DrS2 w r (W.alloc o) := by
  obtain ⟨A1, c1, A2, c2, s, n, t, n0, n1, t0, t1, e, hs, l1, l2, hb⟩ := h
  exact ⟨A1, c1, A2, c2, s, n, t, n0, n1, t0, t1, e, ⟨hs.1.alloc o, hs.2.alloc o⟩, l1, l2, bel_new hb o⟩
theorem DrS2.mk {w0 w W : World} {B : Nat} {A A1 A2 : Option Addr} {m cap lim c1 c2 : Nat} {s : Sp} {n t : Int} (hr : Rd2 w0 w B A m cap lim W) (hs : SpD B A1 A2 s W) (n0 : -1 ≤ n) (n1 : n ≤ 64) (t0 : 0 ≤ t ∧ t ≤ 901) (a b : Value) :
    DrS2 w (.returned (.tuple #[.agg #[.slice A1 s.refs.length c1, .slice A2 s.last.length c2], .int .i64 n, .int .i64 t])) ((W.setCell ⟨w.heap.size, 0, none⟩ a).setCell ⟨w.heap.size, 1, none⟩ b) :=
  ⟨A1, c1, A2, c2, s, n, t, n0, n1, t0.1, t0.2, rfl, hs.put hr.out _ _, hs.l1.2, hs.l2.2, hr.put _ _⟩

set_option maxRecDepth 100000 in
set_option maxHeartbeats 8000000 in
theorem draw_take (A : Option Addr) (n cap : Nat) (w : World) (hn : n ≤ cap) (hA : BytesAt w A n) : Calls Try.prog 48 #[.slice A n cap] w (DrS2 w) := by
  have hO := open_rd A n cap (w.alloc (.cells #[.slice none 0 0, .slice none 0 0] 24)) hn (bytes_box hA _)
  go_enter Try.func48, Try.ntmps48
  go_upto_region 2 with (go_at_call 76; refine hO.mono ?_; rintro r w1 ⟨A', m', cap', B, rfl, hr⟩)
  have h0 := rd2_new hr
  clear hr hO
  have hC1 := fun W (h : Rd2 (w.alloc (.cells #[.slice none 0 0, .slice none 0 0] 24)) w B A' m' cap' 0 W) => h.space (by omega)
  have hC2 := fun W (h : Rd2 (w.alloc (.cells #[.slice none 0 0, .slice none 0 0] 24)) w B A' m' cap' 100 W) => h.row (by omega)
  have hC3 := fun W (h : Rd2 (w.alloc (.cells #[.slice none 0 0, .slice none 0 0] 24)) w B A' m' cap' 102 W) => h.pick (by omega) 8 (by omega) (by omega)
  have h1 := h0.drew
  have hB1 := h0.lt
  first
    | go_region_with (first
      | (go_at_call 77; (with_reducible refine (hC1 _ ?_).mono ?_); (first | exact h1 | exact h1.alloc _); rintro r w2 ⟨A1, c1, A2, c2, s, rfl, h2, hs, gg⟩; have hB2 := h2.lt; (first | have hz := tlit_afterD gg hB1 | have hz := tlit_after gg hB1 | skip))
      | (go_at_call 79; (with_reducible refine (hC2 _ ?_).mono ?_); (first | exact h2 | exact h2.alloc _); rintro r w3 ⟨x, x0, x1, rfl, h3, gg3⟩; have hB3 := h3.lt; (first | have hs3 := hs.grown gg3 | have hs3 := (hs.alloc _).grown gg3); (first | have hz := hz.grown gg3 | have hz := tlit_after gg3 hB2 | skip))
      | (go_at_call 78; (with_reducible refine (hC3 _ ?_).mono ?_); (first | exact h3 | exact h3.alloc _); rintro r w4 ⟨u, u0, u1, rfl, h4, gg4⟩; obtain ⟨j, rfl⟩ : ∃ j : Nat, u = (j : Int) := ⟨u.toNat, by omega⟩; have hj : j < 8 := (by omega); have ha1 := takeLit_at j hj; have ha3 := tlit_new j hj; (first | have hs4 := hs3.grown gg4 | have hs4 := (hs3.alloc _).grown gg4); (first | (have hz := hz.grown gg4; have hc := TLit.at_ hz hj; have hc2 := TLit.at2 hz hj (TLit.ne_out hz h4.out) (.slice A1 s.refs.length c1) (.slice A2 s.last.length c2)) | (have hz := tlit_after gg4 hB3; have hc := TLit.at_ hz hj; have hc2 := TLit.at2 hz hj (TLit.ne_out hz h4.out) (.slice A1 s.refs.length c1) (.slice A2 s.last.length c2)) | skip); have ol := h4.out.lt; obtain ⟨⟨o0, o1⟩, f0, f1⟩ := h4.out.cells))
    | fail "region"
  all_goals go_wp2_with fail
  all_goals first
    | exact bodyPost_ret (v := .tuple #[.agg #[.slice A1 s.refs.length c1, .slice A2 s.last.length c2], .int .i64 x, .int .i64 (takeLit j)]) (by simp [results, Try.f48, go_sem, o0, o1]) rfl (DrS2.mk h4 hs4 x0 x1 (takeLit_in j hj) _ _)
    | exact bodyPost_ret (v := .tuple #[.agg #[.slice A1 s.refs.length c1, .slice A2 s.last.length c2], .int .i64 x, .int .i64 (takeLit j)]) (by simp [results, Try.f48, go_sem, o0, o1, ol] <;> exact takeLit_lst j hj _) rfl (DrS2.alloc (DrS2.mk h4 hs4 x0 x1 (takeLit_in j hj) _ _) _)
end Go.Proofs.Ytlmemjfinpccoaa
