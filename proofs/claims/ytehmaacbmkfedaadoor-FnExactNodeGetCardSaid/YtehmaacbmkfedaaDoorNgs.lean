/-
  Boxes of ten integers; NodeGet, the model's: the node that a text is the text of, or that there is none.
-/
import Derived.Test.YtehmaacbmkfedaaDoorNps
import Derived.Test.YtehmaacbmkfedaaDoorGetS2
namespace Go.Proofs.YtehmaacbmkfedaaDoor
open Go.RowKit
set_option linter.unusedVariables false

def Nd.val (n : Nd) : Value := .agg #[.int .i64 n.kind, .int .i64 n.links, .int .i64 n.size, .int .i64 n.root.a, .int .i64 n.root.b, .int .i64 n.root.c, .int .i64 n.root.d, .int .i64 n.root.e, .int .i64 n.depth, .int .i64 n.many]
/-- A box of ten integers. -/
def NB (W : World) (g : Nat) (v0 v1 v2 v3 v4 v5 v6 v7 v8 v9 : Int) (t : TypeId) : Prop := W.heap[g]? = some (.cells #[.int .i64 v0, .int .i64 v1, .int .i64 v2, .int .i64 v3, .int .i64 v4, .int .i64 v5, .int .i64 v6, .int .i64 v7, .int .i64 v8, .int .i64 v9] t (0, 0))
section
variable {W W' : World} {g : Nat} {v0 v1 v2 v3 v4 v5 v6 v7 v8 v9 : Int} {t : TypeId}
theorem NB.lt (h : NB W g v0 v1 v2 v3 v4 v5 v6 v7 v8 v9 t) : g < W.heap.size := (Array.getElem?_eq_some_iff.1 h).1
theorem NB.below (h : NB W g v0 v1 v2 v3 v4 v5 v6 v7 v8 v9 t) (hb : Below W.heap.size W W') : NB W' g v0 v1 v2 v3 v4 v5 v6 v7 v8 v9 t := (hb.block g h.lt).trans h
theorem NB.new (W : World) (v0 v1 v2 v3 v4 v5 v6 v7 v8 v9 : Int) (t : TypeId) : NB (W.alloc (.cells #[.int .i64 v0, .int .i64 v1, .int .i64 v2, .int .i64 v3, .int .i64 v4, .int .i64 v5, .int .i64 v6, .int .i64 v7, .int .i64 v8, .int .i64 v9] t)) W.heap.size v0 v1 v2 v3 v4 v5 v6 v7 v8 v9 t := heap_alloc_new W _
theorem NB.cells (h : NB W g v0 v1 v2 v3 v4 v5 v6 v7 v8 v9 t) : W.cell? ⟨g, 0, none⟩ = some (.int .i64 v0) ∧ W.cell? ⟨g, 1, none⟩ = some (.int .i64 v1) ∧ W.cell? ⟨g, 2, none⟩ = some (.int .i64 v2) ∧ W.cell? ⟨g, 3, none⟩ = some (.int .i64 v3) ∧ W.cell? ⟨g, 4, none⟩ = some (.int .i64 v4) ∧ W.cell? ⟨g, 5, none⟩ = some (.int .i64 v5) ∧ W.cell? ⟨g, 6, none⟩ = some (.int .i64 v6) ∧ W.cell? ⟨g, 7, none⟩ = some (.int .i64 v7) ∧ W.cell? ⟨g, 8, none⟩ = some (.int .i64 v8) ∧ W.cell? ⟨g, 9, none⟩ = some (.int .i64 v9) := by
  unfold NB at h
  simp [World.cell?, h]
theorem NB.fro (h : NB W g v0 v1 v2 v3 v4 v5 v6 v7 v8 v9 t) (k : Nat) : W.frozen? ⟨g, k, none⟩ = false := by
  unfold NB at h
  simp [World.frozen?, h]
theorem NB.other (h : NB W g v0 v1 v2 v3 v4 v5 v6 v7 v8 v9 t) {p : Addr} (hp : p.block ≠ g) (v : Value) : NB (W.setCell p v) g v0 v1 v2 v3 v4 v5 v6 v7 v8 v9 t := by
  unfold NB at *
  simp [World.setCell, Array.getElem?_modify, hp, h]
theorem NB.fill7 (h : NB W g v0 v1 v2 v3 v4 v5 v6 v7 v8 v9 t) (a b c d e dep many : Int) : NB (((((((W.setCell ⟨g, 3, none⟩ (.int .i64 a)).setCell ⟨g, 4, none⟩ (.int .i64 b)).setCell ⟨g, 5, none⟩ (.int .i64 c)).setCell ⟨g, 6, none⟩ (.int .i64 d)).setCell ⟨g, 7, none⟩ (.int .i64 e)).setCell ⟨g, 8, none⟩ (.int .i64 dep)).setCell ⟨g, 9, none⟩ (.int .i64 many)) g v0 v1 v2 a b c d e dep many t := by
  unfold NB at *
  simp [World.setCell, Array.getElem?_modify, h]
end
theorem bel_set7 {B : Nat} {u W : World} (h : Below B u W) {g : Nat} (hg : B ≤ g) (a b c d e dep many : Int) : Below B u (((((((W.setCell ⟨g, 3, none⟩ (.int .i64 a)).setCell ⟨g, 4, none⟩ (.int .i64 b)).setCell ⟨g, 5, none⟩ (.int .i64 c)).setCell ⟨g, 6, none⟩ (.int .i64 d)).setCell ⟨g, 7, none⟩ (.int .i64 e)).setCell ⟨g, 8, none⟩ (.int .i64 dep)).setCell ⟨g, 9, none⟩ (.int .i64 many)) :=
  ((((((h.setCell (p := ⟨g, 3, none⟩) hg _).setCell (p := ⟨g, 4, none⟩) hg _).setCell (p := ⟨g, 5, none⟩) hg _).setCell (p := ⟨g, 6, none⟩) hg _).setCell (p := ⟨g, 7, none⟩) hg _).setCell (p := ⟨g, 8, none⟩) hg _).setCell (p := ⟨g, 9, none⟩) hg _
theorem bel_set10 {B : Nat} {u W : World} (h : Below B u W) {g : Nat} (hg : B ≤ g) (v0 v1 v2 v3 v4 v5 v6 v7 v8 v9 : Value) : Below B u ((((((((((W.setCell ⟨g, 0, none⟩ v0).setCell ⟨g, 1, none⟩ v1).setCell ⟨g, 2, none⟩ v2).setCell ⟨g, 3, none⟩ v3).setCell ⟨g, 4, none⟩ v4).setCell ⟨g, 5, none⟩ v5).setCell ⟨g, 6, none⟩ v6).setCell ⟨g, 7, none⟩ v7).setCell ⟨g, 8, none⟩ v8).setCell ⟨g, 9, none⟩ v9) :=
  (((((((((h.setCell (p := ⟨g, 0, none⟩) hg _).setCell (p := ⟨g, 1, none⟩) hg _).setCell (p := ⟨g, 2, none⟩) hg _).setCell (p := ⟨g, 3, none⟩) hg _).setCell (p := ⟨g, 4, none⟩) hg _).setCell (p := ⟨g, 5, none⟩) hg _).setCell (p := ⟨g, 6, none⟩) hg _).setCell (p := ⟨g, 7, none⟩) hg _).setCell (p := ⟨g, 8, none⟩) hg _).setCell (p := ⟨g, 9, none⟩) hg _

def NGet (s : ByteArray) (w : World) (e : Ending) (w' : World) : Prop :=
  Below w.heap.size w w' ∧ ((∃ n, NodeOf s n ∧ e = .returned (.tuple #[n.val, .bool true])) ∨ ((∀ n, ¬ NodeOf s n) ∧ e = .returned (.tuple #[Nd.zero.val, .bool false])))
theorem NGet.no {s : ByteArray} {w w' : World} (h : ∀ n, ¬ NodeOf s n) (hb : Below w.heap.size w w') : NGet s w (.returned (.tuple #[Nd.zero.val, .bool false])) w' := ⟨hb, .inr ⟨h, rfl⟩⟩
theorem NGet.yes {s : ByteArray} {w w' : World} {n : Nd} (h : NodeOf s n) (hb : Below w.heap.size w w') : NGet s w (.returned (.tuple #[n.val, .bool true])) w' := ⟨hb, .inl ⟨n, h, rfl⟩⟩
theorem rec_no {s : ByteArray} {ss : List ByteArray} (hr : isRec s.data.toList ss) (h : ∀ n, NodeOf s n → nodeOf ss = n → False) (n : Nd) : ¬ NodeOf s n := fun hn => by
  have : ss = flds n := recL_inj (hr.2.2.symm.trans hn.2)
  exact h n hn (by rw [this, nodeOf_flds hn.1])
/-- The spec's reading of a number: some number, and whether it is one. -/
theorem num_is2 (p : ByteArray) (W : World) (hp : p.size ≤ 1048576) : Calls Tryd.prog 28 #[.string p] W fun e w' => e = .returned (.tuple #[.int .i64 (numV p), .bool (isNum p)]) ∧ W = w' :=
  spec_numget p W (by omega)
theorem field_short {l : List UInt8} {ss : List ByteArray} (h : isRec l ss) (x : ByteArray) (hx : x ∈ ss) : x.size ≤ 2048 := by
  have h1 := h.2.1
  have : ∀ (tt : List ByteArray), x ∈ tt → x.size ≤ (recL tt).length := by
    intro tt
    induction tt with
    | nil => intro h; cases h
    | cons t tt ih =>
      intro h
      rw [recL_cons, List.length_append, encF_len]
      rcases List.mem_cons.1 h with rfl | h
      · omega
      · have := ih h
        omega
  have := this ss hx
  omega

set_option maxRecDepth 100000 in
set_option maxHeartbeats 8000000 in
theorem s_nodeget (s : ByteArray) (w : World) (hs : s.size ≤ 1048576) : Calls Tryd.prog 11 #[.string s] w (NGet s w) := by
  have hG9 := fun W => spec_fget s W hs
  by_cases hex : ∃ ss, isRec s.data.toList ss
  · obtain ⟨ss, hr⟩ := hex
    have hG : ∀ W, Calls Tryd.prog 27 #[.string s] W fun e w' => ∃ g c : Nat, e = .returned (.tuple #[.slice (some ⟨g, 0, none⟩) ss.length c, .bool true]) ∧ w'.ownsRow W.heap.size 9 1 (.slice (some ⟨g, 0, none⟩) ss.length c) ss.length (strCellsOf ss) ∧ Below W.heap.size W w' := fun W => (hG9 W).mono fun e w' ⟨hb, h⟩ => h.elim (fun ⟨tt, g, c, ht, he, ho⟩ => by obtain rfl : tt = ss := recL_inj (ht.2.2.symm.trans hr.2.2); exact ⟨g, c, he, ho, hb⟩) (fun ⟨hno, _⟩ => absurd hr (hno ss))
    clear hG9
    by_cases h7 : ss.length = 7
    · obtain ⟨x0, x1, x2, x3, x4, x5, x6, hss⟩ : ∃ x0 x1 x2 x3 x4 x5 x6, ss = [x0, x1, x2, x3, x4, x5, x6] := by
        match ss, h7 with
        | [x0, x1, x2, x3, x4, x5, x6], _ => exact ⟨x0, x1, x2, x3, x4, x5, x6, rfl⟩
      subst hss
      have hG : ∀ W, Calls Tryd.prog 27 #[.string s] W fun e w' => ∃ g c : Nat, e = .returned (.tuple #[.slice (some ⟨g, 0, none⟩) 7 c, .bool true]) ∧ w'.ownsRow W.heap.size 9 1 (.slice (some ⟨g, 0, none⟩) 7 c) 7 (strCellsOf [x0, x1, x2, x3, x4, x5, x6]) ∧ Below W.heap.size W w' := hG
      have r0 := NB.new w 0 0 0 0 0 0 0 0 0 0 33
      have B0 : Below w.heap.size w (w.alloc (.cells #[.int .i64 0, .int .i64 0, .int .i64 0, .int .i64 0, .int .i64 0, .int .i64 0, .int .i64 0, .int .i64 0, .int .i64 0, .int .i64 0] 33)) := bel_new (Below.refl _ _) _
      go_enter Tryd.func11, Tryd.ntmps11
      go_upto_region 1 with fail
      generalize hW0 : w.alloc (.cells #[.int .i64 0, .int .i64 0, .int .i64 0, .int .i64 0, .int .i64 0, .int .i64 0, .int .i64 0, .int .i64 0, .int .i64 0, .int .i64 0] 33) = W0 at r0 B0
      clear hW0
      have hG0 := hG W0
      have l0 := r0.lt
      clear hG
      go_upto_region 2 with (go_at_call 27; refine hG0.mono ?_; rintro r w1 ⟨g, c, rfl, ho, hb1⟩; refine Hid.out ?_)
      refine Lib.hid ?_
      have r1 := r0.below hb1
      have B1 := B0.trans (hb1.mono B0.size)
      clear hG0 r0 B0
      obtain ⟨z0, z1, z2, z3, z4, z5, z6, z7, z8, z9⟩ := r1.cells
      have f0 := r1.fro 0
      have f1 := r1.fro 1
      have f2 := r1.fro 2
      have f3 := r1.fro 3
      have f4 := r1.fro 4
      have f5 := r1.fro 5
      have f6 := r1.fro 6
      have f7 := r1.fro 7
      have f8 := r1.fro 8
      have f9 := r1.fro 9
      have hx := field_short hr
      have hN : ∀ x ∈ [x0, x1, x2, x3, x4, x5, x6], ∀ W, Calls Tryd.prog 28 #[.string x] W fun e w' => e = .returned (.tuple #[.int .i64 (numV x), .bool (isNum x)]) ∧ W = w' := fun x hm W => num_is2 x W (by have := hx x hm; omega)
      have hN0 := hN x0 (by simp)
      have hN1 := hN x1 (by simp)
      have hN2 := hN x2 (by simp)
      have hN4 := hN x4 (by simp)
      have hN5 := hN x5 (by simp)
      have hP3 := fun W => spec_pget x3 W (by have := hx x3 (by simp); omega)
      have hgl := (ho.lt g rfl).2
      have hg0 := (ho.lt g rfl).1
      obtain ⟨b9, o9, e9, hlb, hc9⟩ := (StrsAt.of_own ho rfl) (by simp)
      obtain ⟨rfl, rfl⟩ : b9 = g ∧ o9 = 0 := by cases e9; exact ⟨rfl, rfl⟩
      have hA : StrsAt w1 (some ⟨b9, 0, none⟩) [x0, x1, x2, x3, x4, x5, x6] := StrsAt.of_own ho rfl
      have q0 : w1.cell? ⟨b9, 0, none⟩ = some (.string x0) := hc9 0 (by simp)
      have q1 : w1.cell? ⟨b9, 1, none⟩ = some (.string x1) := hc9 1 (by simp)
      have q2 : w1.cell? ⟨b9, 2, none⟩ = some (.string x2) := hc9 2 (by simp)
      have q3 : w1.cell? ⟨b9, 3, none⟩ = some (.string x3) := hc9 3 (by simp)
      have hnn : nodeOf [x0, x1, x2, x3, x4, x5, x6] = ⟨numV x0, numV x1, numV x2, (ptrG x3).1, numV x4, numV x5⟩ := rfl
      have HR := Lib.hid hr
      obtain ⟨⟨⟨a, b, cc, d, e⟩, o⟩, hq⟩ : ∃ q, q = ptrG x3 := ⟨_, rfl⟩
      rw [← hq] at hP3 hnn
      have HN := Lib.hid hnn
      have hP4 : ∀ W, Calls Tryd.prog 29 #[.string x3] W fun r w' => r = .returned (.tuple #[.agg #[.int .i64 a, .int .i64 b, .int .i64 cc, .int .i64 d, .int .i64 e], .bool o]) ∧ Below W.heap.size W w' := hP3
      clear hN hP3 hx hr hnn hq ho hc9 e9 h7
      generalize numV x0 = kind at hN0 HN
      generalize numV x1 = links at hN1 HN
      generalize numV x2 = size at hN2 HN
      generalize numV x4 = dep at hN4 HN
      generalize numV x5 = many at hN5 HN
      generalize isNum x0 = i0 at hN0
      generalize isNum x1 = i1 at hN1
      generalize isNum x2 = i2 at hN2
      generalize isNum x4 = i4 at hN4
      generalize isNum x5 = i5 at hN5
      have hne : w.heap.size ≠ b9 := by have := r1.lt; have := B1.size; have := hb1.size; omega
      go_upto_region 8 with (first | (go_at_call 28; first | ((with_reducible refine (hN0 _).mono ?_); rintro r w3 ⟨rfl, rfl⟩) | ((with_reducible refine (hN1 _).mono ?_); rintro r w3 ⟨rfl, rfl⟩) | ((with_reducible refine (hN2 _).mono ?_); rintro r w3 ⟨rfl, rfl⟩)))
      have n1 := NB.new w1 kind links size 0 0 0 0 0 0 0 33
      have bw : Below w1.heap.size w1 (w1.alloc (.cells #[.int .i64 kind, .int .i64 links, .int .i64 size, .int .i64 0, .int .i64 0, .int .i64 0, .int .i64 0, .int .i64 0, .int .i64 0, .int .i64 0] 33)) := bel_new (Below.refl _ _) _
      have r2 := r1.below bw
      have B2 := B1.trans (bw.mono B1.size)
      have hA2 := hA.below bw
      have hz2 : (w1.alloc (.cells #[.int .i64 kind, .int .i64 links, .int .i64 size, .int .i64 0, .int .i64 0, .int .i64 0, .int .i64 0, .int .i64 0, .int .i64 0, .int .i64 0] 33)).heap.size = w1.heap.size + 1 := by simp
      generalize hW2 : w1.alloc (.cells #[.int .i64 kind, .int .i64 links, .int .i64 size, .int .i64 0, .int .i64 0, .int .i64 0, .int .i64 0, .int .i64 0, .int .i64 0, .int .i64 0] 33) = W2 at n1 bw r2 B2 hA2 hz2
      clear hW2 q0 q1 q2 q3
      have hP5 := hP4 W2
      obtain ⟨b8, o8, e8, hlb8, hc8⟩ := hA2 (by simp)
      obtain ⟨rfl, rfl⟩ : b8 = b9 ∧ o8 = 0 := by cases e8; exact ⟨rfl, rfl⟩
      have q3 : W2.cell? ⟨b8, 3, none⟩ = some (.string x3) := hc8 3 (by simp)
      clear e8 hc8
      go_wp2_with (go_at_call 29; refine hP5.mono ?_; rintro r w3 ⟨rfl, hb3⟩; refine Hid.out ?_)
      refine Lib.hid ?_
      have n3 := n1.below hb3
      have r3 := r2.below hb3
      have B3 := B2.trans (hb3.mono B2.size)
      have hA3 := hA2.below hb3
      obtain ⟨b7, o7, e7, hlb7, hc7⟩ := hA3 (by simp)
      obtain ⟨rfl, rfl⟩ : b7 = b8 ∧ o7 = 0 := by cases e7; exact ⟨rfl, rfl⟩
      have q4 : w3.cell? ⟨b7, 4, none⟩ = some (.string x4) := hc7 4 (by simp)
      have q5 : w3.cell? ⟨b7, 5, none⟩ = some (.string x5) := hc7 5 (by simp)
      obtain ⟨y0, y1, y2, y3, y4, y5, y6, y7, y8, y9⟩ := n3.cells
      have g3 := n3.fro 3
      have g4 := n3.fro 4
      have g5 := n3.fro 5
      have g6 := n3.fro 6
      have g7 := n3.fro 7
      have g8 := n3.fro 8
      have g9 := n3.fro 9
      have hnb : w1.heap.size ≠ b7 := by omega
      have hnr : w.heap.size ≠ w1.heap.size := by have := r1.lt; omega
      have S1 : w.heap.size ≤ w1.heap.size := B1.size
      clear hP4 hP5 n1 r2 B2 hA2 bw hc7 e7 q3 hz2 hA hb1 r1 z0 z1 z2 z3 z4 z5 z6 z7 z8 z9 f0 f1 f2 f3 f4 f5 f6 f7 f8 f9 hgl hg0 hlb hlb8 B1
      go_upto_region 11 with (first | (go_at_call 28; first | ((with_reducible refine (hN4 _).mono ?_); rintro r w4 ⟨rfl, rfl⟩) | ((with_reducible refine (hN5 _).mono ?_); rintro r w4 ⟨rfl, rfl⟩)))
      have n4 := n3.fill7 a b cc d e dep many
      have r4 : NB (((((((w3.setCell ⟨w1.heap.size, 3, none⟩ (.int .i64 a)).setCell ⟨w1.heap.size, 4, none⟩ (.int .i64 b)).setCell ⟨w1.heap.size, 5, none⟩ (.int .i64 cc)).setCell ⟨w1.heap.size, 6, none⟩ (.int .i64 d)).setCell ⟨w1.heap.size, 7, none⟩ (.int .i64 e)).setCell ⟨w1.heap.size, 8, none⟩ (.int .i64 dep)).setCell ⟨w1.heap.size, 9, none⟩ (.int .i64 many)) w.heap.size 0 0 0 0 0 0 0 0 0 0 33 := ((((((r3.other (p := ⟨w1.heap.size, 3, none⟩) (Ne.symm hnr) _).other (p := ⟨w1.heap.size, 4, none⟩) (Ne.symm hnr) _).other (p := ⟨w1.heap.size, 5, none⟩) (Ne.symm hnr) _).other (p := ⟨w1.heap.size, 6, none⟩) (Ne.symm hnr) _).other (p := ⟨w1.heap.size, 7, none⟩) (Ne.symm hnr) _).other (p := ⟨w1.heap.size, 8, none⟩) (Ne.symm hnr) _).other (p := ⟨w1.heap.size, 9, none⟩) (Ne.symm hnr) _
      have B4 := bel_set7 B3 S1 a b cc d e dep many
      generalize hW4 : (((((((w3.setCell ⟨w1.heap.size, 3, none⟩ (.int .i64 a)).setCell ⟨w1.heap.size, 4, none⟩ (.int .i64 b)).setCell ⟨w1.heap.size, 5, none⟩ (.int .i64 cc)).setCell ⟨w1.heap.size, 6, none⟩ (.int .i64 d)).setCell ⟨w1.heap.size, 7, none⟩ (.int .i64 e)).setCell ⟨w1.heap.size, 8, none⟩ (.int .i64 dep)).setCell ⟨w1.heap.size, 9, none⟩ (.int .i64 many)) = W4 at n4 r4 B4
      clear hW4 n3 r3 B3 y0 y1 y2 y3 y4 y5 y6 y7 y8 y9 g3 g4 g5 g6 g7 g8 g9 q4 q5 hA3 hlb7 hb3
      have hO := fun W => s_nodeok kind links size a b cc d e dep many W
      have hT := fun W => s_nodeput kind links size a b cc d e dep many W
      obtain ⟨y0, y1, y2, y3, y4, y5, y6, y7, y8, y9⟩ := n4.cells
      cases hk : nodeOk ⟨kind, links, size, ⟨a, b, cc, d, e⟩, dep, many⟩ with
      | false =>
        have HV : Hid (∀ n, ¬ NodeOf s n) := Lib.hid (rec_no HR.out (fun n hn he => by rw [HN.out] at he; rw [← he] at hn; rw [hn.1] at hk; cases hk))
        rw [hk] at hO
        clear hk hT
        go_wp2_with (go_at_call 20; refine (hO _).mono ?_; rintro r w5 ⟨rfl, hb5⟩; have r5 := r4.below hb5; obtain ⟨z0, z1, z2, z3, z4, z5, z6, z7, z8, z9⟩ := r5.cells; have f0 := r5.fro 0; have f1 := r5.fro 1; have f2 := r5.fro 2; have f3 := r5.fro 3; have f4 := r5.fro 4; have f5 := r5.fro 5; have f6 := r5.fro 6; have f7 := r5.fro 7; have f8 := r5.fro 8; have f9 := r5.fro 9)
        refine bodyPost_ret (v := .tuple #[Nd.zero.val, .bool false]) ?_ rfl (NGet.no HV.out (bel_set10 (B4.trans (hb5.mono B4.size)) (Nat.le_refl _) _ _ _ _ _ _ _ _ _ _))
        rw [results_cell_tmp rfl]
        go_simp
        rfl
      | true =>
        rw [nodeT_yes hk] at hT
        rw [hk] at hO
        by_cases hs2 : strOf (recL (flds ⟨kind, links, size, ⟨a, b, cc, d, e⟩, dep, many⟩)) = s
        · have hy : NodeOf s ⟨kind, links, size, ⟨a, b, cc, d, e⟩, dep, many⟩ := ⟨hk, by rw [← hs2, strOf_toList]⟩
          have HV := Lib.hid hy
          rw [hs2] at hT
          have hq : (s.toList == s.toList) = true := by simp
          clear hk hs2 hy
          go_wp2_with (first | (go_at_call 20; refine (hO _).mono ?_; rintro r w5 ⟨rfl, hb5⟩; have n5 := n4.below hb5; have r5 := r4.below hb5; obtain ⟨y0, y1, y2, y3, y4, y5, y6, y7, y8, y9⟩ := n5.cells; have B5 := B4.trans (hb5.mono B4.size)) | (go_at_call 8; refine (hT _).mono ?_; rintro r w6 ⟨rfl, hb6⟩; have n6 := n5.below hb6; have r6 := r5.below hb6; have B6 := B5.trans (hb6.mono B5.size); obtain ⟨y0, y1, y2, y3, y4, y5, y6, y7, y8, y9⟩ := n6.cells; obtain ⟨z0, z1, z2, z3, z4, z5, z6, z7, z8, z9⟩ := r6.cells; have f0 := r6.fro 0; have f1 := r6.fro 1; have f2 := r6.fro 2; have f3 := r6.fro 3; have f4 := r6.fro 4; have f5 := r6.fro 5; have f6 := r6.fro 6; have f7 := r6.fro 7; have f8 := r6.fro 8; have f9 := r6.fro 9))
          refine bodyPost_ret (v := .tuple #[Nd.val ⟨kind, links, size, ⟨a, b, cc, d, e⟩, dep, many⟩, .bool true]) ?_ rfl (NGet.yes HV.out (bel_set10 B6 (Nat.le_refl _) _ _ _ _ _ _ _ _ _ _))
          rw [results_cell_tmp rfl]
          go_simp
          rfl
        · have HV : Hid (∀ n, ¬ NodeOf s n) := Lib.hid (rec_no HR.out (fun n hn he => by rw [HN.out] at he; rw [← he] at hn; exact hs2 (bytes_inj (by rw [strOf_toList, hn.2]))))
          have hq := str_other hs2
          generalize strOf (recL (flds ⟨kind, links, size, ⟨a, b, cc, d, e⟩, dep, many⟩)) = TT at hT hq
          clear hk hs2
          go_wp2_with (first | (go_at_call 20; refine (hO _).mono ?_; rintro r w5 ⟨rfl, hb5⟩; have n5 := n4.below hb5; have r5 := r4.below hb5; obtain ⟨y0, y1, y2, y3, y4, y5, y6, y7, y8, y9⟩ := n5.cells; have B5 := B4.trans (hb5.mono B4.size)) | (go_at_call 8; refine (hT _).mono ?_; rintro r w6 ⟨rfl, hb6⟩; have n6 := n5.below hb6; have r6 := r5.below hb6; have B6 := B5.trans (hb6.mono B5.size); obtain ⟨z0, z1, z2, z3, z4, z5, z6, z7, z8, z9⟩ := r6.cells; have f0 := r6.fro 0; have f1 := r6.fro 1; have f2 := r6.fro 2; have f3 := r6.fro 3; have f4 := r6.fro 4; have f5 := r6.fro 5; have f6 := r6.fro 6; have f7 := r6.fro 7; have f8 := r6.fro 8; have f9 := r6.fro 9))
          refine bodyPost_ret (v := .tuple #[Nd.zero.val, .bool false]) ?_ rfl (NGet.no HV.out (bel_set10 B6 (Nat.le_refl _) _ _ _ _ _ _ _ _ _ _))
          rw [results_cell_tmp rfl]
          go_simp
          rfl
    · have HV : Hid (∀ n, ¬ NodeOf s n) := Lib.hid (nodeOf_no hr.2.2 (fun h => h7 h.1))
      have hq7 : ((ss.length : Int) != 7) = true := by rw [bne_iff_ne]; omega
      clear hr h7
      have r0 := NB.new w 0 0 0 0 0 0 0 0 0 0 33
      have B0 : Below w.heap.size w (w.alloc (.cells #[.int .i64 0, .int .i64 0, .int .i64 0, .int .i64 0, .int .i64 0, .int .i64 0, .int .i64 0, .int .i64 0, .int .i64 0, .int .i64 0] 33)) := bel_new (Below.refl _ _) _
      go_enter Tryd.func11, Tryd.ntmps11
      go_upto_region 1 with fail
      generalize hW0 : w.alloc (.cells #[.int .i64 0, .int .i64 0, .int .i64 0, .int .i64 0, .int .i64 0, .int .i64 0, .int .i64 0, .int .i64 0, .int .i64 0, .int .i64 0] 33) = W0 at r0 B0
      clear hW0
      have hG0 := hG W0
      have l0 := r0.lt
      clear hG
      go_upto_region 2 with (go_at_call 27; refine hG0.mono ?_; rintro r w1 ⟨g, c, rfl, ho, hb1⟩; refine Hid.out ?_)
      refine Lib.hid ?_
      have r1 := r0.below hb1
      have B1 := B0.trans (hb1.mono B0.size)
      clear hG0 r0 B0
      obtain ⟨z0, z1, z2, z3, z4, z5, z6, z7, z8, z9⟩ := r1.cells
      have f0 := r1.fro 0
      have f1 := r1.fro 1
      have f2 := r1.fro 2
      have f3 := r1.fro 3
      have f4 := r1.fro 4
      have f5 := r1.fro 5
      have f6 := r1.fro 6
      have f7 := r1.fro 7
      have f8 := r1.fro 8
      have f9 := r1.fro 9
      clear ho
      go_wp2_with fail
      refine bodyPost_ret (v := .tuple #[Nd.zero.val, .bool false]) ?_ rfl (NGet.no HV.out (bel_set10 B1 (Nat.le_refl _) _ _ _ _ _ _ _ _ _ _))
      rw [results_cell_tmp rfl]
      go_simp
      rfl
  · have hno : ∀ ss, ¬ isRec s.data.toList ss := fun ss h => hex ⟨ss, h⟩
    have HV : Hid (∀ n, ¬ NodeOf s n) := Lib.hid (nodeOf_none (fun ss h => hno ss h))
    have hG : ∀ W, Calls Tryd.prog 27 #[.string s] W fun e w' => ∃ A c, e = .returned (.tuple #[.slice A 0 c, .bool false]) ∧ Below W.heap.size W w' := fun W => (hG9 W).mono fun e w' ⟨hb, h⟩ => h.elim (fun ⟨tt, g, c, ht, _⟩ => absurd ht (hno tt)) (fun ⟨_, A, c, he⟩ => ⟨A, c, he, hb⟩)
    clear hno hex hG9
    have r0 := NB.new w 0 0 0 0 0 0 0 0 0 0 33
    have B0 : Below w.heap.size w (w.alloc (.cells #[.int .i64 0, .int .i64 0, .int .i64 0, .int .i64 0, .int .i64 0, .int .i64 0, .int .i64 0, .int .i64 0, .int .i64 0, .int .i64 0] 33)) := bel_new (Below.refl _ _) _
    go_enter Tryd.func11, Tryd.ntmps11
    go_upto_region 1 with fail
    generalize hW0 : w.alloc (.cells #[.int .i64 0, .int .i64 0, .int .i64 0, .int .i64 0, .int .i64 0, .int .i64 0, .int .i64 0, .int .i64 0, .int .i64 0, .int .i64 0] 33) = W0 at r0 B0
    clear hW0
    have hG0 := hG W0
    have l0 := r0.lt
    clear hG
    go_upto_region 2 with (go_at_call 27; refine hG0.mono ?_; rintro r w1 ⟨A, c, rfl, hb1⟩; refine Hid.out ?_)
    refine Lib.hid ?_
    have r1 := r0.below hb1
    have B1 := B0.trans (hb1.mono B0.size)
    clear hG0 r0 B0
    obtain ⟨z0, z1, z2, z3, z4, z5, z6, z7, z8, z9⟩ := r1.cells
    have f0 := r1.fro 0
    have f1 := r1.fro 1
    have f2 := r1.fro 2
    have f3 := r1.fro 3
    have f4 := r1.fro 4
    have f5 := r1.fro 5
    have f6 := r1.fro 6
    have f7 := r1.fro 7
    have f8 := r1.fro 8
    have f9 := r1.fro 9
    go_wp2_with fail
    refine bodyPost_ret (v := .tuple #[Nd.zero.val, .bool false]) ?_ rfl (NGet.no HV.out (bel_set10 B1 (Nat.le_refl _) _ _ _ _ _ _ _ _ _ _))
    rw [results_cell_tmp rfl]
    go_simp
    rfl
end Go.Proofs.YtehmaacbmkfedaaDoor
