/-
  NodeGet, the program's: the node that a text is the text of, or that there is none.
-/
import Derived.Test.YtehmaacbmkfedaaDoorNgs
import Derived.Test.YtehmaacbmkfedaaDoorNpi
import Derived.Test.YtehmaacbmkfedaaDoorGetIm2
namespace Go.Proofs.YtehmaacbmkfedaaDoor
open Go.RowKit
set_option linter.unusedVariables false

/-- What readNode asks of seven fields. -/
def sixOk (ss : List ByteArray) : Prop := ss.length = 7 ∧ ss.getD 6 ⟨#[]⟩ = endB ∧ isNum (ss.getD 0 ⟨#[]⟩) = true ∧ isNum (ss.getD 1 ⟨#[]⟩) = true ∧ isNum (ss.getD 2 ⟨#[]⟩) = true ∧ (ptrG (ss.getD 3 ⟨#[]⟩)).2 = true ∧ isNum (ss.getD 4 ⟨#[]⟩) = true ∧ isNum (ss.getD 5 ⟨#[]⟩) = true
theorem six_seven {ss : List ByteArray} (h : sixOk ss) (hk : nodeOk (nodeOf ss) = true) : sevenOk ss := ⟨h.1, h.2.1, h.2.2.1, h.2.2.2.1, h.2.2.2.2.1, h.2.2.2.2.2.1, h.2.2.2.2.2.2.1, h.2.2.2.2.2.2.2, hk⟩
theorem seven_six {ss : List ByteArray} (h : sevenOk ss) : sixOk ss ∧ nodeOk (nodeOf ss) = true := ⟨⟨h.1, h.2.1, h.2.2.1, h.2.2.2.1, h.2.2.2.2.1, h.2.2.2.2.2.1, h.2.2.2.2.2.2.1, h.2.2.2.2.2.2.2.1⟩, h.2.2.2.2.2.2.2.2⟩
def RNod (s : ByteArray) (w : World) (e : Ending) (w' : World) : Prop :=
  Below w.heap.size w w' ∧ ((∃ ss, isRec s.data.toList ss ∧ sixOk ss ∧ e = .returned (.tuple #[(nodeOf ss).val, .bool true])) ∨ ((∀ ss, isRec s.data.toList ss → ¬ sixOk ss) ∧ e = .returned (.tuple #[Nd.zero.val, .bool false])))
theorem RNod.no {s : ByteArray} {w w' : World} (h : ∀ ss, isRec s.data.toList ss → ¬ sixOk ss) (hb : Below w.heap.size w w') : RNod s w (.returned (.tuple #[Nd.zero.val, .bool false])) w' := ⟨hb, .inr ⟨h, rfl⟩⟩
theorem RNod.yes {s : ByteArray} {w w' : World} {ss : List ByteArray} {n : Nd} (h : isRec s.data.toList ss) (h2 : sixOk ss) (hn : nodeOf ss = n) (hb : Below w.heap.size w w') : RNod s w (.returned (.tuple #[n.val, .bool true])) w' := ⟨hb, .inl ⟨ss, h, h2, by rw [hn]⟩⟩
theorem rec_one {l : List UInt8} {ss : List ByteArray} (h : isRec l ss) (hn : ¬ sixOk ss) (tt : List ByteArray) (ht : isRec l tt) : ¬ sixOk tt := by
  rw [recL_inj (ht.2.2.symm.trans h.2.2)]
  exact hn

theorem str_end {s : ByteArray} (h : s ≠ endB) : (s.toList == [101, 110, 100]) = false := by
  have h2 := str_isnt h
  unfold endB at h2
  rw [ByteArray.toList_eq ⟨#[101, 110, 100]⟩] at h2
  exact h2
/-- A pointer's box. -/
def B5x (W : World) (g : Nat) (a b c d e : Int) : Prop := g < W.heap.size ∧ W.cell? ⟨g, 0, none⟩ = some (.int .i64 a) ∧ W.cell? ⟨g, 1, none⟩ = some (.int .i64 b) ∧ W.cell? ⟨g, 2, none⟩ = some (.int .i64 c) ∧ W.cell? ⟨g, 3, none⟩ = some (.int .i64 d) ∧ W.cell? ⟨g, 4, none⟩ = some (.int .i64 e)
theorem B5x.new (W : World) (a b c d e : Int) (t : TypeId) : B5x (W.alloc (.cells #[.int .i64 a, .int .i64 b, .int .i64 c, .int .i64 d, .int .i64 e] t)) W.heap.size a b c d e := by
  refine ⟨by simp, ?_, ?_, ?_, ?_, ?_⟩
  all_goals (rw [World.cell?_alloc_mark]; rfl)
theorem B5x.next {W W' : World} {g : Nat} {a b c d e : Int} (h : B5x W g a b c d e) (hb : Below W.heap.size W W') : B5x W' g a b c d e := by
  obtain ⟨hg, y0, y1, y2, y3, y4⟩ := h
  exact ⟨Nat.lt_of_lt_of_le hg hb.size, (hb.cell hg).trans y0, (hb.cell hg).trans y1, (hb.cell hg).trans y2, (hb.cell hg).trans y3, (hb.cell hg).trans y4⟩
theorem B5x.drew {W : World} {g : Nat} {a b c d e : Int} (h : B5x W g a b c d e) : B5x W.drew g a b c d e := h
/-- Five of the fields' cells, kept. -/
def Q5 (w : World) (b9 : Nat) (x0 x1 x2 x4 x5 : ByteArray) (W : World) : Prop := W.cell? ⟨b9, 0, none⟩ = some (.string x0) ∧ W.cell? ⟨b9, 1, none⟩ = some (.string x1) ∧ W.cell? ⟨b9, 2, none⟩ = some (.string x2) ∧ W.cell? ⟨b9, 4, none⟩ = some (.string x4) ∧ W.cell? ⟨b9, 5, none⟩ = some (.string x5) ∧ b9 < W.heap.size ∧ Below w.heap.size w W
theorem Q5.next {w W W' : World} {b9 : Nat} {x0 x1 x2 x4 x5 : ByteArray} (k : Q5 w b9 x0 x1 x2 x4 x5 W) (hb : Below W.heap.size W W') : Q5 w b9 x0 x1 x2 x4 x5 W' := by
  obtain ⟨y0, y1, y2, y4, y5, hg, hw⟩ := k
  exact ⟨(hb.cell hg).trans y0, (hb.cell hg).trans y1, (hb.cell hg).trans y2, (hb.cell hg).trans y4, (hb.cell hg).trans y5, Nat.lt_of_lt_of_le hg hb.size, hw.trans (hb.mono hw.size)⟩
theorem Q5.bel {w W : World} {b9 : Nat} {x0 x1 x2 x4 x5 : ByteArray} (k : Q5 w b9 x0 x1 x2 x4 x5 W) : Below w.heap.size w W := k.2.2.2.2.2.2
theorem Q5.drew {w W : World} {b9 : Nat} {x0 x1 x2 x4 x5 : ByteArray} (k : Q5 w b9 x0 x1 x2 x4 x5 W) : Q5 w b9 x0 x1 x2 x4 x5 W.drew := ⟨k.1, k.2.1, k.2.2.1, k.2.2.2.1, k.2.2.2.2.1, k.2.2.2.2.2.1, k.2.2.2.2.2.2.drew⟩
/-- A pointer's box and a row of five numbers, kept. -/
def K8 (w : World) (g6 g8 : Nat) (a b cc d e kind links size dep many : Int) (W : World) : Prop := W.cell? ⟨g6, 0, none⟩ = some (.int .i64 a) ∧ W.cell? ⟨g6, 1, none⟩ = some (.int .i64 b) ∧ W.cell? ⟨g6, 2, none⟩ = some (.int .i64 cc) ∧ W.cell? ⟨g6, 3, none⟩ = some (.int .i64 d) ∧ W.cell? ⟨g6, 4, none⟩ = some (.int .i64 e) ∧ W.cell? ⟨g8, 0, none⟩ = some (.int .i64 kind) ∧ W.cell? ⟨g8, 1, none⟩ = some (.int .i64 links) ∧ W.cell? ⟨g8, 2, none⟩ = some (.int .i64 size) ∧ W.cell? ⟨g8, 3, none⟩ = some (.int .i64 dep) ∧ W.cell? ⟨g8, 4, none⟩ = some (.int .i64 many) ∧ g6 < W.heap.size ∧ g8 < W.heap.size ∧ Below w.heap.size w W
theorem K8.next {w W W' : World} {g6 g8 : Nat} {a b cc d e kind links size dep many : Int} (k : K8 w g6 g8 a b cc d e kind links size dep many W) (hb : Below W.heap.size W W') : K8 w g6 g8 a b cc d e kind links size dep many W' := by
  obtain ⟨y0, y1, y2, y3, y4, z0, z1, z2, z3, z4, hg, hh, hw⟩ := k
  exact ⟨(hb.cell hg).trans y0, (hb.cell hg).trans y1, (hb.cell hg).trans y2, (hb.cell hg).trans y3, (hb.cell hg).trans y4, (hb.cell hh).trans z0, (hb.cell hh).trans z1, (hb.cell hh).trans z2, (hb.cell hh).trans z3, (hb.cell hh).trans z4, Nat.lt_of_lt_of_le hg hb.size, Nat.lt_of_lt_of_le hh hb.size, hw.trans (hb.mono hw.size)⟩
theorem K8.drew {w W : World} {g6 g8 : Nat} {a b cc d e kind links size dep many : Int} (k : K8 w g6 g8 a b cc d e kind links size dep many W) : K8 w g6 g8 a b cc d e kind links size dep many W.drew := by
  obtain ⟨y0, y1, y2, y3, y4, z0, z1, z2, z3, z4, hg, hh, hw⟩ := k
  exact ⟨y0, y1, y2, y3, y4, z0, z1, z2, z3, z4, hg, hh, hw.drew⟩
/-- A row of five numbers and a tree's box, whatever is stored elsewhere. -/
def K9 (g8 g9 : Nat) (kind links size dep many a b cc d e : Int) (W : World) : Prop := W.cell? ⟨g8, 0, none⟩ = some (.int .i64 kind) ∧ W.cell? ⟨g8, 1, none⟩ = some (.int .i64 links) ∧ W.cell? ⟨g8, 2, none⟩ = some (.int .i64 size) ∧ W.cell? ⟨g8, 3, none⟩ = some (.int .i64 dep) ∧ W.cell? ⟨g8, 4, none⟩ = some (.int .i64 many) ∧ W.cell? ⟨g9, 0, none⟩ = some (.int .i64 a) ∧ W.cell? ⟨g9, 1, none⟩ = some (.int .i64 b) ∧ W.cell? ⟨g9, 2, none⟩ = some (.int .i64 cc) ∧ W.cell? ⟨g9, 3, none⟩ = some (.int .i64 d) ∧ W.cell? ⟨g9, 4, none⟩ = some (.int .i64 e) ∧ W.cell? ⟨g9, 5, none⟩ = some (.int .i64 dep) ∧ W.cell? ⟨g9, 6, none⟩ = some (.int .i64 many)
theorem K9.drew {W : World} {g8 g9 : Nat} {kind links size dep many a b cc d e : Int} (k : K9 g8 g9 kind links size dep many a b cc d e W) : K9 g8 g9 kind links size dep many a b cc d e W.drew := k
theorem K9.set {W : World} {g8 g9 B i : Nat} {kind links size dep many a b cc d e : Int} (k : K9 g8 g9 kind links size dep many a b cc d e W) (h8 : B ≠ g8) (h9 : B ≠ g9) (v : Value) : K9 g8 g9 kind links size dep many a b cc d e (W.setCell ⟨B, i, none⟩ v) := by
  obtain ⟨y0, y1, y2, y3, y4, z0, z1, z2, z3, z4, z5, z6⟩ := k
  have hc : ∀ i', (W.setCell ⟨B, i, none⟩ v).cell? ⟨g8, i', none⟩ = W.cell? ⟨g8, i', none⟩ := fun i' => by rw [World.cell?_setCell_other (h := fun e => h8 (congrArg Addr.block e))]
  have hd : ∀ i', (W.setCell ⟨B, i, none⟩ v).cell? ⟨g9, i', none⟩ = W.cell? ⟨g9, i', none⟩ := fun i' => by rw [World.cell?_setCell_other (h := fun e => h9 (congrArg Addr.block e))]
  exact ⟨by rw [hc, y0], by rw [hc, y1], by rw [hc, y2], by rw [hc, y3], by rw [hc, y4], by rw [hd, z0], by rw [hd, z1], by rw [hd, z2], by rw [hd, z3], by rw [hd, z4], by rw [hd, z5], by rw [hd, z6]⟩
theorem strs5_new (W : World) (t0 t1 t2 t3 t4 : ByteArray) : StrsAt (W.alloc (.cells #[.string t0, .string t1, .string t2, .string t3, .string t4] 9)) (some ⟨W.heap.size, 0, none⟩) [t0, t1, t2, t3, t4] := by
  intro _
  refine ⟨W.heap.size, 0, rfl, by simp, fun j hj => ?_⟩
  rw [Nat.zero_add, World.cell?_alloc_mark]
  match j, hj with
  | 0, _ => rfl
  | 1, _ => rfl
  | 2, _ => rfl
  | 3, _ => rfl
  | 4, _ => rfl

set_option maxRecDepth 100000 in
set_option maxHeartbeats 8000000 in
theorem i_readnode (s : ByteArray) (w : World) (hs : s.size ≤ 1048576) (hE : Env w) : Calls Tryd.prog 30 #[.string s] w (RNod s w) := by
  have hG9 := fun W (hb : Below w.heap.size w W) => impl_fget s W hs (hE.1.at hb) (hE.2.1.below hb) (hE.2.2.below hb)
  by_cases hex : ∃ ss, isRec s.data.toList ss
  · obtain ⟨ss, hr⟩ := hex
    have hG : ∀ W, Below w.heap.size w W → Calls Tryd.prog 54 #[.string s] W fun e w' => ∃ g c : Nat, e = .returned (.tuple #[.slice (some ⟨g, 0, none⟩) ss.length c, .bool true]) ∧ w'.ownsRow W.heap.size 9 1 (.slice (some ⟨g, 0, none⟩) ss.length c) ss.length (strCellsOf ss) ∧ Below W.heap.size W w' := fun W hb => (hG9 W hb).mono fun e w' ⟨hb, h⟩ => h.elim (fun ⟨tt, g, c, ht, he, ho⟩ => by obtain rfl : tt = ss := recL_inj (ht.2.2.symm.trans hr.2.2); exact ⟨g, c, he, ho, hb⟩) (fun ⟨hno, _⟩ => absurd hr (hno ss))
    clear hG9
    by_cases h7 : ss.length = 7
    · obtain ⟨x0, x1, x2, x3, x4, x5, x6, hss⟩ : ∃ x0 x1 x2 x3 x4 x5 x6, ss = [x0, x1, x2, x3, x4, x5, x6] := by
        match ss, h7 with
        | [x0, x1, x2, x3, x4, x5, x6], _ => exact ⟨x0, x1, x2, x3, x4, x5, x6, rfl⟩
      subst hss
      have hG : ∀ W, Below w.heap.size w W → Calls Tryd.prog 54 #[.string s] W fun e w' => ∃ g c : Nat, e = .returned (.tuple #[.slice (some ⟨g, 0, none⟩) 7 c, .bool true]) ∧ w'.ownsRow W.heap.size 9 1 (.slice (some ⟨g, 0, none⟩) 7 c) 7 (strCellsOf [x0, x1, x2, x3, x4, x5, x6]) ∧ Below W.heap.size W w' := hG
      by_cases h6 : x6 = endB
      · subst h6
        have hx := field_short hr
        have hPg := fun W (hb : Below w.heap.size w W) => impl_pget x3 W (by have := hx x3 (by simp); omega) (hE.at hb)
        have hNg := fun A cap W (hA : StrsAt W A [x0, x1, x2, x4, x5]) (hb : Below w.heap.size w W) => impl_nums A cap [x0, x1, x2, x4, x5] W (by simp) (fun p hp => by have := hx p (by simp at hp ⊢; rcases hp with h | h | h | h | h <;> simp [h]); omega) hA (hE.at hb)
        have hfv : five [x0, x1, x2, x4, x5] = ⟨numV x0, numV x1, numV x2, numV x4, numV x5⟩ := rfl
        have hnn : nodeOf [x0, x1, x2, x3, x4, x5, endB] = ⟨numV x0, numV x1, numV x2, (ptrG x3).1, numV x4, numV x5⟩ := rfl
        have hsx : sixOk [x0, x1, x2, x3, x4, x5, endB] ↔ (∀ k (hk : k < [x0, x1, x2, x4, x5].length), isNum [x0, x1, x2, x4, x5][k] = true) ∧ (ptrG x3).2 = true := by
          constructor
          · rintro ⟨_, _, h0, h1, h2, h3, h4, h5⟩
            refine ⟨fun k hk => ?_, h3⟩
            match k, hk with
            | 0, _ => exact h0
            | 1, _ => exact h1
            | 2, _ => exact h2
            | 3, _ => exact h4
            | 4, _ => exact h5
          · rintro ⟨h, h3⟩
            exact ⟨rfl, rfl, h 0 (by simp), h 1 (by simp), h 2 (by simp), h3, h 3 (by simp), h 4 (by simp)⟩
        clear hE hx
        obtain ⟨⟨⟨a, b, cc, d, e⟩, o⟩, hq⟩ : ∃ q, q = ptrG x3 := ⟨_, rfl⟩
        rw [← hq] at hPg hnn hsx
        have hPg : ∀ W, Below w.heap.size w W → Calls Tryd.prog 55 #[.string x3] W fun r w' => r = .returned (.tuple #[.agg #[.int .i64 a, .int .i64 b, .int .i64 cc, .int .i64 d, .int .i64 e], .bool o]) ∧ Below W.heap.size W w' := hPg
        clear hq h7
        by_cases hall : ∀ k (hk : k < [x0, x1, x2, x4, x5].length), isNum [x0, x1, x2, x4, x5][k] = true
        · have hNu : ∀ W : World, Below w.heap.size w W → Calls Tryd.prog 56 #[.slice (some ⟨W.heap.size, 0, none⟩) 5 5] (W.alloc (.cells #[.string x0, .string x1, .string x2, .string x4, .string x5] 9)) fun r w' => ∃ g8 c8 : Nat, r = .returned (.tuple #[.slice (some ⟨g8, 0, none⟩) 5 c8, .bool true]) ∧ (w'.cell? ⟨g8, 0, none⟩ = some (.int .i64 (numV x0)) ∧ w'.cell? ⟨g8, 1, none⟩ = some (.int .i64 (numV x1)) ∧ w'.cell? ⟨g8, 2, none⟩ = some (.int .i64 (numV x2)) ∧ w'.cell? ⟨g8, 3, none⟩ = some (.int .i64 (numV x4)) ∧ w'.cell? ⟨g8, 4, none⟩ = some (.int .i64 (numV x5))) ∧ W.heap.size < g8 ∧ g8 < w'.heap.size ∧ Below (W.alloc (.cells #[.string x0, .string x1, .string x2, .string x4, .string x5] 9)).heap.size (W.alloc (.cells #[.string x0, .string x1, .string x2, .string x4, .string x5] 9)) w' := fun W hb => (hNg (some ⟨W.heap.size, 0, none⟩) 5 (W.alloc (.cells #[.string x0, .string x1, .string x2, .string x4, .string x5] 9)) (strs5_new W x0 x1 x2 x4 x5) (hb.alloc hb.size _)).mono fun r w' ⟨hb2, h⟩ => h.elim (fun ⟨_, g, c, he, ho⟩ => ⟨g, c, he, by have := ints_at (ps := [x0, x1, x2, x4, x5]) ho rfl; rw [hfv] at this; exact this, by have := (ho.lt g rfl).1; rw [World.size_alloc] at this; omega, (ho.lt g rfl).2, hb2⟩) (fun ⟨hno, _⟩ => absurd hall hno)
          have HS : Hid (o = true → sixOk [x0, x1, x2, x3, x4, x5, endB]) := Lib.hid (fun h => hsx.2 ⟨hall, h⟩)
          have HX : Hid (o = false → ¬ sixOk [x0, x1, x2, x3, x4, x5, endB]) := Lib.hid (fun h h2 => by have := (hsx.1 h2).2; rw [h] at this; cases this)
          have HN := Lib.hid hnn
          have HR := Lib.hid hr
          clear hall hNg hsx hfv hnn hr
          generalize numV x0 = kind at hNu HN
          generalize numV x1 = links at hNu HN
          generalize numV x2 = size at hNu HN
          generalize numV x4 = dep at hNu HN
          generalize numV x5 = many at hNu HN
          have r0 := NB.new w 0 0 0 0 0 0 0 0 0 0 33
          have B0 : Below w.heap.size w (w.alloc (.cells #[.int .i64 0, .int .i64 0, .int .i64 0, .int .i64 0, .int .i64 0, .int .i64 0, .int .i64 0, .int .i64 0, .int .i64 0, .int .i64 0] 33)) := bel_new (Below.refl _ _) _
          go_enter Tryd.func30, Tryd.ntmps30
          go_upto_region 1 with fail
          generalize hW0 : w.alloc (.cells #[.int .i64 0, .int .i64 0, .int .i64 0, .int .i64 0, .int .i64 0, .int .i64 0, .int .i64 0, .int .i64 0, .int .i64 0, .int .i64 0] 33) = W0 at r0 B0
          clear hW0
          have hG0 := hG W0 B0
          have l0 := r0.lt
          clear hG
          go_upto_region 2 with (go_at_call 54; refine hG0.mono ?_; rintro r w1 ⟨g, c, rfl, ho, hb1⟩; refine Hid.out ?_)
          refine Lib.hid ?_
          have r1 := r0.below hb1
          have B1 := B0.trans (hb1.mono B0.size)
          clear hG0 r0 B0
          have hA : StrsAt w1 (some ⟨g, 0, none⟩) [x0, x1, x2, x3, x4, x5, endB] := StrsAt.of_own ho rfl
          have hg0 := (ho.lt g rfl).1
          obtain ⟨b9, o9, e9, hlb, hc9⟩ := hA (by simp)
          obtain ⟨rfl, rfl⟩ : b9 = g ∧ o9 = 0 := by cases e9; exact ⟨rfl, rfl⟩
          have q6 : w1.cell? ⟨b9, 6, none⟩ = some (.string endB) := hc9 6 (by simp)
          unfold endB at q6
          have qq : (⟨#[101, 110, 100]⟩ : ByteArray).toList = [101, 110, 100] := by rw [ByteArray.toList_eq]
          have q0 : w1.cell? ⟨b9, 0, none⟩ = some (.string x0) := hc9 0 (by simp)
          have q1 : w1.cell? ⟨b9, 1, none⟩ = some (.string x1) := hc9 1 (by simp)
          have q2 : w1.cell? ⟨b9, 2, none⟩ = some (.string x2) := hc9 2 (by simp)
          have q3 : w1.cell? ⟨b9, 3, none⟩ = some (.string x3) := hc9 3 (by simp)
          have q4 : w1.cell? ⟨b9, 4, none⟩ = some (.string x4) := hc9 4 (by simp)
          have q5 : w1.cell? ⟨b9, 5, none⟩ = some (.string x5) := hc9 5 (by simp)
          have k9 : Q5 w b9 x0 x1 x2 x4 x5 w1 := ⟨q0, q1, q2, q4, q5, hlb, B1⟩
          have hP0 := hPg w1 B1
          clear hPg hA hc9 e9 ho q0 q1 q2 q4 q5
          go_upto_region 5 with (go_at_call 55; refine hP0.mono ?_; rintro r w3 ⟨rfl, hb3⟩; refine Hid.out ?_)
          refine Lib.hid ?_
          have r3 := r1.below hb3
          have k3 := k9.next hb3
          have l3 := k3.2.2.2.2.2.1
          have s3 := hb3.size
          go_upto_region 5 with fail
          have p6 : B5x (w3.alloc (.cells #[.int .i64 a, .int .i64 b, .int .i64 cc, .int .i64 d, .int .i64 e] 29)) w3.heap.size a b cc d e := B5x.new w3 a b cc d e 29
          have r4 := r3.below (bel_fresh (o := .cells #[.int .i64 a, .int .i64 b, .int .i64 cc, .int .i64 d, .int .i64 e] 29) w3)
          have k4 := k3.next (bel_fresh (o := .cells #[.int .i64 a, .int .i64 b, .int .i64 cc, .int .i64 d, .int .i64 e] 29) w3)
          have s4 : (w3.alloc (.cells #[.int .i64 a, .int .i64 b, .int .i64 cc, .int .i64 d, .int .i64 e] 29)).heap.size = w3.heap.size + 1 := by simp
          have s5 := hb1.size
          have s6 := r3.lt
          generalize hG6 : w3.heap.size = g6 at p6 s4
          generalize hW4 : w3.alloc (.cells #[.int .i64 a, .int .i64 b, .int .i64 cc, .int .i64 d, .int .i64 e] 29) = W4 at p6 r4 k4 s4
          have l6 : w.heap.size < g6 := by omega
          have HS4 := Lib.hid s4
          clear s4
          clear hW4 hP0 k9 k3 r3 r1 hb3 s3 hb1 q6 qq q3 hG6 s5 s6 l3 hlb hg0 l0 B1
          have k0 := k4.drew
          refine wp_region_held_drew (S := (fun W => W.cell? ⟨b9, 0, none⟩ = some (.string x0) ∧ W.cell? ⟨b9, 1, none⟩ = some (.string x1) ∧ W.cell? ⟨b9, 2, none⟩ = some (.string x2) ∧ W.cell? ⟨b9, 4, none⟩ = some (.string x4) ∧ W.cell? ⟨b9, 5, none⟩ = some (.string x5) ∧ b9 < W.heap.size ∧ Below w.heap.size w W)) (by kernel_rfl) (show Q5 w b9 x0 x1 x2 x4 x5 _ from k0) (fun hHeld => ?_)
          refine takeH (i := 0) (d := some 37) (v := ?vB0) rfl rfl (by kernel_rfl) (by kernel_rfl) (by kernel_rfl) (fun _ _ _ h => h) (by rfl) ?hyB0 (by assumption) ?restB0
          case hyB0 => (intro W hSw; (try dsimp only at hSw); go_simp <;> with_reducible rfl)
          try simp only [Act.put, List.setIfInBounds_toArray, List.set_cons_zero, List.set_cons_succ]
          refine takeH (i := 1) (d := some 38) (v := ?vB1) rfl rfl (by kernel_rfl) (by kernel_rfl) (by kernel_rfl) (fun _ _ _ h => h) (by rfl) ?hyB1 (by assumption) ?restB1
          case hyB1 => (intro W hSw; (try dsimp only at hSw); go_simp <;> with_reducible rfl)
          try simp only [Act.put, List.setIfInBounds_toArray, List.set_cons_zero, List.set_cons_succ]
          refine takeH (i := 2) (d := some 39) (v := ?vB2) rfl rfl (by kernel_rfl) (by kernel_rfl) (by kernel_rfl) (fun _ _ _ h => h) (by rfl) ?hyB2 (by assumption) ?restB2
          case hyB2 => (intro W hSw; (try dsimp only at hSw); go_simp <;> with_reducible rfl)
          try simp only [Act.put, List.setIfInBounds_toArray, List.set_cons_zero, List.set_cons_succ]
          refine takeH (i := 3) (d := some 40) (v := ?vB3) rfl rfl (by kernel_rfl) (by kernel_rfl) (by kernel_rfl) (fun _ _ _ h => h) (by rfl) ?hyB3 (by assumption) ?restB3
          case hyB3 => (intro W hSw; (try dsimp only at hSw); go_simp <;> with_reducible rfl)
          try simp only [Act.put, List.setIfInBounds_toArray, List.set_cons_zero, List.set_cons_succ]
          refine takeH (i := 4) (d := some 41) (v := ?vB4) rfl rfl (by kernel_rfl) (by kernel_rfl) (by kernel_rfl) (fun _ _ _ h => h) (by rfl) ?hyB4 (by assumption) ?restB4
          case hyB4 => (intro W hSw; (try dsimp only at hSw); go_simp <;> with_reducible rfl)
          try simp only [Act.put, List.setIfInBounds_toArray, List.set_cons_zero, List.set_cons_succ]
          refine takeH (i := 5) (d := some 42) (v := ?vB5) rfl rfl (by kernel_rfl) (by kernel_rfl) (by kernel_rfl) (fun _ _ _ h => h) (by rfl) ?hyB5 (by assumption) ?restB5
          case hyB5 => (intro W hSw; (try dsimp only at hSw); go_simp <;> with_reducible rfl)
          try simp only [Act.put, List.setIfInBounds_toArray, List.set_cons_zero, List.set_cons_succ]
          refine takeH (i := 6) (d := some 43) (v := ?vB6) rfl rfl (by kernel_rfl) (by kernel_rfl) (by kernel_rfl) (fun _ _ _ h => h) (by rfl) ?hyB6 (by assumption) ?restB6
          case hyB6 => (intro W hSw; (try dsimp only at hSw); go_simp <;> with_reducible rfl)
          try simp only [Act.put, List.setIfInBounds_toArray, List.set_cons_zero, List.set_cons_succ]
          refine takeH (i := 7) (d := some 44) (v := ?vB7) rfl rfl (by kernel_rfl) (by kernel_rfl) (by kernel_rfl) (fun _ _ _ h => h) (by rfl) ?hyB7 (by assumption) ?restB7
          case hyB7 => (intro W hSw; (try dsimp only at hSw); go_simp <;> with_reducible rfl)
          try simp only [Act.put, List.setIfInBounds_toArray, List.set_cons_zero, List.set_cons_succ]
          refine takeH (i := 8) (d := some 45) (v := ?vB8) rfl rfl (by kernel_rfl) (by kernel_rfl) (by kernel_rfl) (fun _ _ _ h => h) (by rfl) ?hyB8 (by assumption) ?restB8
          case hyB8 => (intro W hSw; (try dsimp only at hSw); go_simp <;> with_reducible rfl)
          try simp only [Act.put, List.setIfInBounds_toArray, List.set_cons_zero, List.set_cons_succ]
          refine takeH (i := 9) (d := some 46) (v := ?vB9) rfl rfl (by kernel_rfl) (by kernel_rfl) (by kernel_rfl) (fun _ _ _ h => h) (by rfl) ?hyB9 (by assumption) ?restB9
          case hyB9 => (intro W hSw; (try dsimp only at hSw); go_simp <;> with_reducible rfl)
          try simp only [Act.put, List.setIfInBounds_toArray, List.set_cons_zero, List.set_cons_succ]
          refine takeH (i := 10) (d := some 47) (v := ?vB10) rfl rfl (by kernel_rfl) (by kernel_rfl) (by kernel_rfl) (fun _ _ _ h => h) (by rfl) ?hyB10 (by assumption) ?restB10
          case hyB10 => (intro W hSw; (try dsimp only at hSw); go_simp <;> with_reducible rfl)
          try simp only [Act.put, List.setIfInBounds_toArray, List.set_cons_zero, List.set_cons_succ]
          refine takeH (i := 11) (d := some 48) (v := ?vB11) rfl rfl (by kernel_rfl) (by kernel_rfl) (by kernel_rfl) (fun _ _ _ h => h) (by rfl) ?hyB11 (by assumption) ?restB11
          case hyB11 => (intro W hSw; (try dsimp only at hSw); go_simp <;> with_reducible rfl)
          try simp only [Act.put, List.setIfInBounds_toArray, List.set_cons_zero, List.set_cons_succ]
          refine takeH (i := 12) (d := some 49) (v := ?vB12) rfl rfl (by kernel_rfl) (by kernel_rfl) (by kernel_rfl) (fun _ _ _ h => h) (by rfl) ?hyB12 (by assumption) ?restB12
          case hyB12 => (intro W hSw; (try dsimp only at hSw); go_simp <;> with_reducible rfl)
          try simp only [Act.put, List.setIfInBounds_toArray, List.set_cons_zero, List.set_cons_succ]
          refine takeH (i := 13) (d := some 50) (v := ?vB13) rfl rfl (by kernel_rfl) (by kernel_rfl) (by kernel_rfl) (fun _ _ _ h => h) (by rfl) ?hyB13 (by assumption) ?restB13
          case hyB13 => (intro W hSw; (try dsimp only at hSw); go_simp <;> with_reducible rfl)
          try simp only [Act.put, List.setIfInBounds_toArray, List.set_cons_zero, List.set_cons_succ]
          refine takeH (i := 14) (d := some 51) (v := ?vB14) rfl rfl (by kernel_rfl) (by kernel_rfl) (by kernel_rfl) (fun _ _ _ h => h) (by rfl) ?hyB14 (by assumption) ?restB14
          case hyB14 => (intro W hSw; (try dsimp only at hSw); go_simp <;> with_reducible rfl)
          try simp only [Act.put, List.setIfInBounds_toArray, List.set_cons_zero, List.set_cons_succ]
          refine wpAnyH_ready (rs := [15]) (by kernel_rfl) (by simp) ?_
          refine AllReadyH.cons rfl (fun K hK => ?_) AllReadyH.nil
          go_simp
          refine hK.out _ _ (show Q5 w b9 x0 x1 x2 x4 x5 _ from (k0.next (bel_fresh _))) (fun hHeld0 => ?_)
          clear hK K
          try simp only [Act.put, List.setIfInBounds_toArray, List.set_cons_zero, List.set_cons_succ]
          refine wpAnyH_ready (rs := [16]) (by kernel_rfl) (by simp) ?_
          refine AllReadyH.cons rfl (fun K hK => ?_) AllReadyH.nil
          go_simp
          have k1 : Q5 w b9 x0 x1 x2 x4 x5 _ := hHeld0
          go_at_call 56
          refine (hNu _ k0.bel).mono ?_
          rintro r w5 ⟨g8, c8, rfl, hi8, hl8, hu8, hb2⟩
          have k2 := k1.next hb2
          refine hK.out _ _ (show Q5 w b9 x0 x1 x2 x4 x5 _ from k2) (fun hHeld => ?_)
          clear hK K
          try simp only [Act.put, List.setIfInBounds_toArray, List.set_cons_zero, List.set_cons_succ]
          refine takeH (i := 17) (d := some 36) (v := ?vB17) rfl rfl (by kernel_rfl) (by kernel_rfl) (by kernel_rfl) (fun _ _ _ h => h) (by rfl) ?hyB17 (by assumption) ?restB17
          case hyB17 => (intro W hSw; (try dsimp only at hSw); go_simp <;> with_reducible rfl)
          try simp only [Act.put, List.setIfInBounds_toArray, List.set_cons_zero, List.set_cons_succ]
          refine takeH (i := 18) (d := some 54) (v := ?vB18) rfl rfl (by kernel_rfl) (by kernel_rfl) (by kernel_rfl) (fun _ _ _ h => h) (by rfl) ?hyB18 (by assumption) ?restB18
          case hyB18 => (intro W hSw; (try dsimp only at hSw); go_simp <;> with_reducible rfl)
          try simp only [Act.put, List.setIfInBounds_toArray, List.set_cons_zero, List.set_cons_succ]
          refine takeH (i := 19) (d := some 55) (v := ?vB19) rfl rfl (by kernel_rfl) (by kernel_rfl) (by kernel_rfl) (fun _ _ _ h => h) (by rfl) ?hyB19 (by assumption) ?restB19
          case hyB19 => (intro W hSw; (try dsimp only at hSw); go_simp <;> with_reducible rfl)
          try simp only [Act.put, List.setIfInBounds_toArray, List.set_cons_zero, List.set_cons_succ]
          refine takeH (i := 20) (d := some 8) (v := ?vB20) rfl rfl (by kernel_rfl) (by kernel_rfl) (by kernel_rfl) (fun _ _ _ h => h) (by rfl) ?hyB20 (by assumption) ?restB20
          case hyB20 => (intro W hSw; (try dsimp only at hSw); go_simp <;> with_reducible rfl)
          try simp only [Act.put, List.setIfInBounds_toArray, List.set_cons_zero, List.set_cons_succ]
          refine takeH (i := 21) (d := some 5) (v := ?vB21) rfl rfl (by kernel_rfl) (by kernel_rfl) (by kernel_rfl) (fun _ _ _ h => h) (by rfl) ?hyB21 (by assumption) ?restB21
          case hyB21 => (intro W hSw; (try dsimp only at hSw); go_simp <;> with_reducible rfl)
          try simp only [Act.put, List.setIfInBounds_toArray, List.set_cons_zero, List.set_cons_succ]
          refine wpAnyH_done (by kernel_rfl) ?_ _
          have p2 := (p6.drew.next (bel_fresh (o := .cells #[.string x0, .string x1, .string x2, .string x4, .string x5] 9) _)).next hb2
          have r5 := (NB.below (W := W4.drew) r4 (bel_fresh (o := .cells #[.string x0, .string x1, .string x2, .string x4, .string x5] 9) _)).below hb2
          have B5 := k2.bel
          cases o with
          | false =>
            have HV : Hid (∀ tt, isRec s.data.toList tt → ¬ sixOk tt) := Lib.hid (rec_one HR.out (HX.out rfl))
            obtain ⟨z0, z1, z2, z3, z4, z5, z6, z7, z8, z9⟩ := r5.cells
            have f0 := r5.fro 0
            have f1 := r5.fro 1
            have f2 := r5.fro 2
            have f3 := r5.fro 3
            have f4 := r5.fro 4
            have f5 := r5.fro 5
            have f6 := r5.fro 6
            have f7 := r5.fro 7
            have f8 := r5.fro 8
            have f9 := r5.fro 9
            clear k0 k1 k2 k4 p2 p6 r4 hHeld hHeld0 hb2 hi8 hl8 hu8
            go_wp2_with fail
            refine bodyPost_ret (v := .tuple #[Nd.zero.val, .bool false]) ?_ rfl (RNod.no HV.out (bel_set10 B5 (Nat.le_refl _) _ _ _ _ _ _ _ _ _ _))
            rw [results_cell_tmp rfl]
            go_simp
            rfl
          | true =>
            have HV := Lib.hid (HS.out rfl)
            obtain ⟨pl, p20, p21, p22, p23, p24⟩ := p2
            obtain ⟨i80, i81, i82, i83, i84⟩ := hi8
            have hs4 : W4.drew.heap.size = g6 + 1 := HS4.out
            have hn8 : w.heap.size ≠ g8 := by omega
            have jj : K8 w g6 g8 a b cc d e kind links size dep many w5 := ⟨p20, p21, p22, p23, p24, i80, i81, i82, i83, i84, pl, hu8, B5⟩
            clear k0 k1 k2 k4 p6 r4 hHeld hHeld0 hb2 p20 p21 p22 p23 p24 i80 i81 i82 i83 i84 hl8 hs4
            go_upto_region 8 with fail
            have j0 := jj.drew
            refine wp_region_held_drew (S := (fun W => W.cell? ⟨g6, 0, none⟩ = some (.int .i64 a) ∧ W.cell? ⟨g6, 1, none⟩ = some (.int .i64 b) ∧ W.cell? ⟨g6, 2, none⟩ = some (.int .i64 cc) ∧ W.cell? ⟨g6, 3, none⟩ = some (.int .i64 d) ∧ W.cell? ⟨g6, 4, none⟩ = some (.int .i64 e) ∧ W.cell? ⟨g8, 0, none⟩ = some (.int .i64 kind) ∧ W.cell? ⟨g8, 1, none⟩ = some (.int .i64 links) ∧ W.cell? ⟨g8, 2, none⟩ = some (.int .i64 size) ∧ W.cell? ⟨g8, 3, none⟩ = some (.int .i64 dep) ∧ W.cell? ⟨g8, 4, none⟩ = some (.int .i64 many) ∧ g6 < W.heap.size ∧ g8 < W.heap.size ∧ Below w.heap.size w W)) (by kernel_rfl) (show K8 w g6 g8 a b cc d e kind links size dep many _ from j0) (fun hHeld => ?_)
            refine takeH (i := 0) (d := some 63) (v := ?vC0) rfl rfl (by kernel_rfl) (by kernel_rfl) (by kernel_rfl) (fun _ _ _ h => h) (by rfl) ?hyC0 (by assumption) ?restC0
            case hyC0 => (intro W hSw; (try dsimp only at hSw); go_simp <;> with_reducible rfl)
            try simp only [Act.put, List.setIfInBounds_toArray, List.set_cons_zero, List.set_cons_succ]
            refine takeH (i := 1) (d := some 64) (v := ?vC1) rfl rfl (by kernel_rfl) (by kernel_rfl) (by kernel_rfl) (fun _ _ _ h => h) (by rfl) ?hyC1 (by assumption) ?restC1
            case hyC1 => (intro W hSw; (try dsimp only at hSw); go_simp <;> with_reducible rfl)
            try simp only [Act.put, List.setIfInBounds_toArray, List.set_cons_zero, List.set_cons_succ]
            refine takeH (i := 2) (d := some 65) (v := ?vC2) rfl rfl (by kernel_rfl) (by kernel_rfl) (by kernel_rfl) (fun _ _ _ h => h) (by rfl) ?hyC2 (by assumption) ?restC2
            case hyC2 => (intro W hSw; (try dsimp only at hSw); go_simp <;> with_reducible rfl)
            try simp only [Act.put, List.setIfInBounds_toArray, List.set_cons_zero, List.set_cons_succ]
            refine takeH (i := 3) (d := some 66) (v := ?vC3) rfl rfl (by kernel_rfl) (by kernel_rfl) (by kernel_rfl) (fun _ _ _ h => h) (by rfl) ?hyC3 (by assumption) ?restC3
            case hyC3 => (intro W hSw; (try dsimp only at hSw); go_simp <;> with_reducible rfl)
            try simp only [Act.put, List.setIfInBounds_toArray, List.set_cons_zero, List.set_cons_succ]
            refine takeH (i := 4) (d := some 67) (v := ?vC4) rfl rfl (by kernel_rfl) (by kernel_rfl) (by kernel_rfl) (fun _ _ _ h => h) (by rfl) ?hyC4 (by assumption) ?restC4
            case hyC4 => (intro W hSw; (try dsimp only at hSw); go_simp <;> with_reducible rfl)
            try simp only [Act.put, List.setIfInBounds_toArray, List.set_cons_zero, List.set_cons_succ]
            refine takeH (i := 5) (d := some 68) (v := ?vC5) rfl rfl (by kernel_rfl) (by kernel_rfl) (by kernel_rfl) (fun _ _ _ h => h) (by rfl) ?hyC5 (by assumption) ?restC5
            case hyC5 => (intro W hSw; (try dsimp only at hSw); go_simp <;> with_reducible rfl)
            try simp only [Act.put, List.setIfInBounds_toArray, List.set_cons_zero, List.set_cons_succ]
            refine takeH (i := 6) (d := some 69) (v := ?vC6) rfl rfl (by kernel_rfl) (by kernel_rfl) (by kernel_rfl) (fun _ _ _ h => h) (by rfl) ?hyC6 (by assumption) ?restC6
            case hyC6 => (intro W hSw; (try dsimp only at hSw); go_simp <;> with_reducible rfl)
            try simp only [Act.put, List.setIfInBounds_toArray, List.set_cons_zero, List.set_cons_succ]
            refine takeH (i := 7) (d := some 70) (v := ?vC7) rfl rfl (by kernel_rfl) (by kernel_rfl) (by kernel_rfl) (fun _ _ _ h => h) (by rfl) ?hyC7 (by assumption) ?restC7
            case hyC7 => (intro W hSw; (try dsimp only at hSw); go_simp <;> with_reducible rfl)
            try simp only [Act.put, List.setIfInBounds_toArray, List.set_cons_zero, List.set_cons_succ]
            refine wpAnyH_ready (rs := [8]) (by kernel_rfl) (by simp) ?_
            refine AllReadyH.cons rfl (fun K hK => ?_) AllReadyH.nil
            go_simp
            refine hK.out _ _ (show K8 w g6 g8 a b cc d e kind links size dep many _ from (j0.next (bel_fresh _))) (fun hHeld => ?_)
            clear hK K
            try simp only [Act.put, List.setIfInBounds_toArray, List.set_cons_zero, List.set_cons_succ]
            refine wpAnyH_ready (rs := [9]) (by kernel_rfl) (by simp) ?_
            refine AllReadyH.cons rfl (fun K hK => ?_) AllReadyH.nil
            go_simp
            refine hK.out _ _ (show K8 w g6 g8 a b cc d e kind links size dep many _ from (j0.next (bel_fresh _))) (fun hHeld => ?_)
            clear hK K
            try simp only [Act.put, List.setIfInBounds_toArray, List.set_cons_zero, List.set_cons_succ]
            refine wpAnyH_done (by kernel_rfl) ?_ _
            have b9x := B7.new w5.drew a b cc d e dep many 31
            have jx := j0.next (bel_fresh (o := .cells #[.int .i64 a, .int .i64 b, .int .i64 cc, .int .i64 d, .int .i64 e, .int .i64 dep, .int .i64 many] 31) w5.drew)
            have rx := NB.below (W := w5.drew) r5 (bel_fresh (o := .cells #[.int .i64 a, .int .i64 b, .int .i64 cc, .int .i64 d, .int .i64 e, .int .i64 dep, .int .i64 many] 31) w5.drew)
            have hn9 : w.heap.size ≠ w5.heap.size := by have := r5.lt; omega
            go_upto_region 9 with fail
            change Code.wp _ _ _ _ (w5.drew.alloc (.cells #[.int .i64 a, .int .i64 b, .int .i64 cc, .int .i64 d, .int .i64 e, .int .i64 dep, .int .i64 many] 31))
            generalize hG9' : w5.drew.heap.size = g9 at b9x
            have hn9 : w.heap.size ≠ g9 := by rw [← hG9']; exact hn9
            generalize hW9 : w5.drew.alloc (.cells #[.int .i64 a, .int .i64 b, .int .i64 cc, .int .i64 d, .int .i64 e, .int .i64 dep, .int .i64 many] 31) = W9 at b9x jx rx
            replace hG9' : w5.heap.size = g9 := hG9'
            obtain ⟨_, _, _, _, _, m0, m1, m2, m3, m4, _, _, B9⟩ := jx
            obtain ⟨t0, t1, t2, t3, t4, t5, t6⟩ := b9x.cells
            have u9 : K9 g8 g9 kind links size dep many a b cc d e W9 := ⟨m0, m1, m2, m3, m4, t0, t1, t2, t3, t4, t5, t6⟩
            have v9 := u9.drew
            obtain ⟨z0, z1, z2, z3, z4, z5, z6, z7, z8, z9⟩ := rx.cells
            have f0 := rx.fro 0
            have f1 := rx.fro 1
            have f2 := rx.fro 2
            have f3 := rx.fro 3
            have f4 := rx.fro 4
            have f5 := rx.fro 5
            have f6 := rx.fro 6
            have f7 := rx.fro 7
            have f8 := rx.fro 8
            have f9 := rx.fro 9
            clear hW9 jj j0 r5 B5 m0 m1 m2 m3 m4 t0 t1 t2 t3 t4 t5 t6 b9x rx hHeld
            try rw [hG9']
            refine wp_region_held_drew (S := (fun W => W.cell? ⟨g8, 0, none⟩ = some (.int .i64 kind) ∧ W.cell? ⟨g8, 1, none⟩ = some (.int .i64 links) ∧ W.cell? ⟨g8, 2, none⟩ = some (.int .i64 size) ∧ W.cell? ⟨g8, 3, none⟩ = some (.int .i64 dep) ∧ W.cell? ⟨g8, 4, none⟩ = some (.int .i64 many) ∧ W.cell? ⟨g9, 0, none⟩ = some (.int .i64 a) ∧ W.cell? ⟨g9, 1, none⟩ = some (.int .i64 b) ∧ W.cell? ⟨g9, 2, none⟩ = some (.int .i64 cc) ∧ W.cell? ⟨g9, 3, none⟩ = some (.int .i64 d) ∧ W.cell? ⟨g9, 4, none⟩ = some (.int .i64 e) ∧ W.cell? ⟨g9, 5, none⟩ = some (.int .i64 dep) ∧ W.cell? ⟨g9, 6, none⟩ = some (.int .i64 many))) (by kernel_rfl) (show K9 g8 g9 kind links size dep many a b cc d e _ from v9) (fun hHeld => ?_)
            refine takeH (i := 0) (d := some 71) (v := ?vD0) rfl rfl (by kernel_rfl) (by kernel_rfl) (by kernel_rfl) (fun _ _ _ h => h) (by rfl) ?hyD0 (by assumption) ?restD0
            case hyD0 => (intro W hSw; (try dsimp only at hSw); go_simp <;> with_reducible rfl)
            try simp only [Act.put, List.setIfInBounds_toArray, List.set_cons_zero, List.set_cons_succ]
            refine takeH (i := 1) (d := some 72) (v := ?vD1) rfl rfl (by kernel_rfl) (by kernel_rfl) (by kernel_rfl) (fun _ _ _ h => h) (by rfl) ?hyD1 (by assumption) ?restD1
            case hyD1 => (intro W hSw; (try dsimp only at hSw); go_simp <;> with_reducible rfl)
            try simp only [Act.put, List.setIfInBounds_toArray, List.set_cons_zero, List.set_cons_succ]
            refine takeH (i := 2) (d := some 73) (v := ?vD2) rfl rfl (by kernel_rfl) (by kernel_rfl) (by kernel_rfl) (fun _ _ _ h => h) (by rfl) ?hyD2 (by assumption) ?restD2
            case hyD2 => (intro W hSw; (try dsimp only at hSw); go_simp <;> with_reducible rfl)
            try simp only [Act.put, List.setIfInBounds_toArray, List.set_cons_zero, List.set_cons_succ]
            refine takeH (i := 3) (d := some 74) (v := ?vD3) rfl rfl (by kernel_rfl) (by kernel_rfl) (by kernel_rfl) (fun _ _ _ h => h) (by rfl) ?hyD3 (by assumption) ?restD3
            case hyD3 => (intro W hSw; (try dsimp only at hSw); go_simp <;> with_reducible rfl)
            try simp only [Act.put, List.setIfInBounds_toArray, List.set_cons_zero, List.set_cons_succ]
            refine takeH (i := 4) (d := some 75) (v := ?vD4) rfl rfl (by kernel_rfl) (by kernel_rfl) (by kernel_rfl) (fun _ _ _ h => h) (by rfl) ?hyD4 (by assumption) ?restD4
            case hyD4 => (intro W hSw; (try dsimp only at hSw); go_simp <;> with_reducible rfl)
            try simp only [Act.put, List.setIfInBounds_toArray, List.set_cons_zero, List.set_cons_succ]
            refine takeH (i := 5) (d := some 76) (v := ?vD5) rfl rfl (by kernel_rfl) (by kernel_rfl) (by kernel_rfl) (fun _ _ _ h => h) (by rfl) ?hyD5 (by assumption) ?restD5
            case hyD5 => (intro W hSw; (try dsimp only at hSw); go_simp <;> with_reducible rfl)
            try simp only [Act.put, List.setIfInBounds_toArray, List.set_cons_zero, List.set_cons_succ]
            refine takeH (i := 6) (d := some 77) (v := ?vD6) rfl rfl (by kernel_rfl) (by kernel_rfl) (by kernel_rfl) (fun _ _ _ h => h) (by rfl) ?hyD6 (by assumption) ?restD6
            case hyD6 => (intro W hSw; (try dsimp only at hSw); go_simp <;> with_reducible rfl)
            try simp only [Act.put, List.setIfInBounds_toArray, List.set_cons_zero, List.set_cons_succ]
            refine takeH (i := 7) (d := some 78) (v := ?vD7) rfl rfl (by kernel_rfl) (by kernel_rfl) (by kernel_rfl) (fun _ _ _ h => h) (by rfl) ?hyD7 (by assumption) ?restD7
            case hyD7 => (intro W hSw; (try dsimp only at hSw); go_simp <;> with_reducible rfl)
            try simp only [Act.put, List.setIfInBounds_toArray, List.set_cons_zero, List.set_cons_succ]
            refine takeH (i := 8) (d := some 79) (v := ?vD8) rfl rfl (by kernel_rfl) (by kernel_rfl) (by kernel_rfl) (fun _ _ _ h => h) (by rfl) ?hyD8 (by assumption) ?restD8
            case hyD8 => (intro W hSw; (try dsimp only at hSw); go_simp <;> with_reducible rfl)
            try simp only [Act.put, List.setIfInBounds_toArray, List.set_cons_zero, List.set_cons_succ]
            refine takeH (i := 9) (d := some 80) (v := ?vD9) rfl rfl (by kernel_rfl) (by kernel_rfl) (by kernel_rfl) (fun _ _ _ h => h) (by rfl) ?hyD9 (by assumption) ?restD9
            case hyD9 => (intro W hSw; (try dsimp only at hSw); go_simp <;> with_reducible rfl)
            try simp only [Act.put, List.setIfInBounds_toArray, List.set_cons_zero, List.set_cons_succ]
            refine takeH (i := 10) (d := some 81) (v := ?vD10) rfl rfl (by kernel_rfl) (by kernel_rfl) (by kernel_rfl) (fun _ _ _ h => h) (by rfl) ?hyD10 (by assumption) ?restD10
            case hyD10 => (intro W hSw; (try dsimp only at hSw); go_simp <;> with_reducible rfl)
            try simp only [Act.put, List.setIfInBounds_toArray, List.set_cons_zero, List.set_cons_succ]
            refine wpAnyH_ready (rs := [11]) (by kernel_rfl) (by simp) ?_
            refine AllReadyH.cons rfl (fun K hK => ?_) AllReadyH.nil
            go_simp
            refine hK.out _ _ (show K9 g8 g9 kind links size dep many a b cc d e _ from (K9.drew ((((((((((u9.set hn8 hn9 _).set hn8 hn9 _).set hn8 hn9 _).set hn8 hn9 _).set hn8 hn9 _).set hn8 hn9 _).set hn8 hn9 _).set hn8 hn9 _).set hn8 hn9 _).set hn8 hn9 _))) (fun hHeld => ?_)
            clear hK K
            try simp only [Act.put, List.setIfInBounds_toArray, List.set_cons_zero, List.set_cons_succ]
            refine takeH (i := 12) (d := some 3) (v := ?vD12) rfl rfl (by kernel_rfl) (by kernel_rfl) (by kernel_rfl) (fun _ _ _ h => h) (by rfl) ?hyD12 (by assumption) ?restD12
            case hyD12 => (intro W hSw; (try dsimp only at hSw); go_simp <;> with_reducible rfl)
            try simp only [Act.put, List.setIfInBounds_toArray, List.set_cons_zero, List.set_cons_succ]
            refine wpAnyH_done (by kernel_rfl) ?_ _
            go_wp2_with fail
            refine bodyPost_ret (v := .tuple #[Nd.val ⟨kind, links, size, ⟨a, b, cc, d, e⟩, dep, many⟩, .bool true]) ?_ rfl (RNod.yes HR.out HV.out HN.out (bel_set10 B9 (Nat.le_refl _) _ _ _ _ _ _ _ _ _ _).drew)
            rw [results_cell_tmp rfl]
            go_simp
            rfl
        · have hNu : ∀ W : World, Below w.heap.size w W → Calls Tryd.prog 56 #[.slice (some ⟨W.heap.size, 0, none⟩) 5 5] (W.alloc (.cells #[.string x0, .string x1, .string x2, .string x4, .string x5] 9)) fun r w' => r = .returned (.tuple #[.slice none 0 0, .bool false]) ∧ Below (W.alloc (.cells #[.string x0, .string x1, .string x2, .string x4, .string x5] 9)).heap.size (W.alloc (.cells #[.string x0, .string x1, .string x2, .string x4, .string x5] 9)) w' := fun W hb => (hNg (some ⟨W.heap.size, 0, none⟩) 5 (W.alloc (.cells #[.string x0, .string x1, .string x2, .string x4, .string x5] 9)) (strs5_new W x0 x1 x2 x4 x5) (hb.alloc hb.size _)).mono fun r w' ⟨hb2, h⟩ => h.elim (fun ⟨hy, _⟩ => absurd hy hall) (fun ⟨_, he⟩ => ⟨he, hb2⟩)
          have HV : Hid (∀ tt, isRec s.data.toList tt → ¬ sixOk tt) := Lib.hid (rec_one hr (fun h => hall (hsx.1 h).1))
          clear hall hNg hsx hfv hnn hr
          have r0 := NB.new w 0 0 0 0 0 0 0 0 0 0 33
          have B0 : Below w.heap.size w (w.alloc (.cells #[.int .i64 0, .int .i64 0, .int .i64 0, .int .i64 0, .int .i64 0, .int .i64 0, .int .i64 0, .int .i64 0, .int .i64 0, .int .i64 0] 33)) := bel_new (Below.refl _ _) _
          go_enter Tryd.func30, Tryd.ntmps30
          go_upto_region 1 with fail
          generalize hW0 : w.alloc (.cells #[.int .i64 0, .int .i64 0, .int .i64 0, .int .i64 0, .int .i64 0, .int .i64 0, .int .i64 0, .int .i64 0, .int .i64 0, .int .i64 0] 33) = W0 at r0 B0
          clear hW0
          have hG0 := hG W0 B0
          have l0 := r0.lt
          clear hG
          go_upto_region 2 with (go_at_call 54; refine hG0.mono ?_; rintro r w1 ⟨g, c, rfl, ho, hb1⟩; refine Hid.out ?_)
          refine Lib.hid ?_
          have r1 := r0.below hb1
          have B1 := B0.trans (hb1.mono B0.size)
          clear hG0 r0 B0
          have hA : StrsAt w1 (some ⟨g, 0, none⟩) [x0, x1, x2, x3, x4, x5, endB] := StrsAt.of_own ho rfl
          have hg0 := (ho.lt g rfl).1
          obtain ⟨b9, o9, e9, hlb, hc9⟩ := hA (by simp)
          obtain ⟨rfl, rfl⟩ : b9 = g ∧ o9 = 0 := by cases e9; exact ⟨rfl, rfl⟩
          have q6 : w1.cell? ⟨b9, 6, none⟩ = some (.string endB) := hc9 6 (by simp)
          unfold endB at q6
          have qq : (⟨#[101, 110, 100]⟩ : ByteArray).toList = [101, 110, 100] := by rw [ByteArray.toList_eq]
          have q0 : w1.cell? ⟨b9, 0, none⟩ = some (.string x0) := hc9 0 (by simp)
          have q1 : w1.cell? ⟨b9, 1, none⟩ = some (.string x1) := hc9 1 (by simp)
          have q2 : w1.cell? ⟨b9, 2, none⟩ = some (.string x2) := hc9 2 (by simp)
          have q3 : w1.cell? ⟨b9, 3, none⟩ = some (.string x3) := hc9 3 (by simp)
          have q4 : w1.cell? ⟨b9, 4, none⟩ = some (.string x4) := hc9 4 (by simp)
          have q5 : w1.cell? ⟨b9, 5, none⟩ = some (.string x5) := hc9 5 (by simp)
          have k9 : Q5 w b9 x0 x1 x2 x4 x5 w1 := ⟨q0, q1, q2, q4, q5, hlb, B1⟩
          have hP0 := hPg w1 B1
          clear hPg hA hc9 e9 ho q0 q1 q2 q4 q5
          go_upto_region 5 with (go_at_call 55; refine hP0.mono ?_; rintro r w3 ⟨rfl, hb3⟩; refine Hid.out ?_)
          refine Lib.hid ?_
          have r3 := r1.below hb3
          have k3 := k9.next hb3
          have l3 := k3.2.2.2.2.2.1
          have s3 := hb3.size
          go_upto_region 5 with fail
          have p6 : B5x (w3.alloc (.cells #[.int .i64 a, .int .i64 b, .int .i64 cc, .int .i64 d, .int .i64 e] 29)) w3.heap.size a b cc d e := B5x.new w3 a b cc d e 29
          have r4 := r3.below (bel_fresh (o := .cells #[.int .i64 a, .int .i64 b, .int .i64 cc, .int .i64 d, .int .i64 e] 29) w3)
          have k4 := k3.next (bel_fresh (o := .cells #[.int .i64 a, .int .i64 b, .int .i64 cc, .int .i64 d, .int .i64 e] 29) w3)
          have s4 : (w3.alloc (.cells #[.int .i64 a, .int .i64 b, .int .i64 cc, .int .i64 d, .int .i64 e] 29)).heap.size = w3.heap.size + 1 := by simp
          have s5 := hb1.size
          have s6 := r3.lt
          generalize hG6 : w3.heap.size = g6 at p6 s4
          generalize hW4 : w3.alloc (.cells #[.int .i64 a, .int .i64 b, .int .i64 cc, .int .i64 d, .int .i64 e] 29) = W4 at p6 r4 k4 s4
          have l6 : w.heap.size < g6 := by omega
          have HS4 := Lib.hid s4
          clear s4
          clear hW4 hP0 k9 k3 r3 r1 hb3 s3 hb1 q6 qq q3 hG6 s5 s6 l3 hlb hg0 l0 B1
          have k0 := k4.drew
          refine wp_region_held_drew (S := (fun W => W.cell? ⟨b9, 0, none⟩ = some (.string x0) ∧ W.cell? ⟨b9, 1, none⟩ = some (.string x1) ∧ W.cell? ⟨b9, 2, none⟩ = some (.string x2) ∧ W.cell? ⟨b9, 4, none⟩ = some (.string x4) ∧ W.cell? ⟨b9, 5, none⟩ = some (.string x5) ∧ b9 < W.heap.size ∧ Below w.heap.size w W)) (by kernel_rfl) (show Q5 w b9 x0 x1 x2 x4 x5 _ from k0) (fun hHeld => ?_)
          refine takeH (i := 0) (d := some 37) (v := ?vA0) rfl rfl (by kernel_rfl) (by kernel_rfl) (by kernel_rfl) (fun _ _ _ h => h) (by rfl) ?hyA0 (by assumption) ?restA0
          case hyA0 => (intro W hSw; (try dsimp only at hSw); go_simp <;> with_reducible rfl)
          try simp only [Act.put, List.setIfInBounds_toArray, List.set_cons_zero, List.set_cons_succ]
          refine takeH (i := 1) (d := some 38) (v := ?vA1) rfl rfl (by kernel_rfl) (by kernel_rfl) (by kernel_rfl) (fun _ _ _ h => h) (by rfl) ?hyA1 (by assumption) ?restA1
          case hyA1 => (intro W hSw; (try dsimp only at hSw); go_simp <;> with_reducible rfl)
          try simp only [Act.put, List.setIfInBounds_toArray, List.set_cons_zero, List.set_cons_succ]
          refine takeH (i := 2) (d := some 39) (v := ?vA2) rfl rfl (by kernel_rfl) (by kernel_rfl) (by kernel_rfl) (fun _ _ _ h => h) (by rfl) ?hyA2 (by assumption) ?restA2
          case hyA2 => (intro W hSw; (try dsimp only at hSw); go_simp <;> with_reducible rfl)
          try simp only [Act.put, List.setIfInBounds_toArray, List.set_cons_zero, List.set_cons_succ]
          refine takeH (i := 3) (d := some 40) (v := ?vA3) rfl rfl (by kernel_rfl) (by kernel_rfl) (by kernel_rfl) (fun _ _ _ h => h) (by rfl) ?hyA3 (by assumption) ?restA3
          case hyA3 => (intro W hSw; (try dsimp only at hSw); go_simp <;> with_reducible rfl)
          try simp only [Act.put, List.setIfInBounds_toArray, List.set_cons_zero, List.set_cons_succ]
          refine takeH (i := 4) (d := some 41) (v := ?vA4) rfl rfl (by kernel_rfl) (by kernel_rfl) (by kernel_rfl) (fun _ _ _ h => h) (by rfl) ?hyA4 (by assumption) ?restA4
          case hyA4 => (intro W hSw; (try dsimp only at hSw); go_simp <;> with_reducible rfl)
          try simp only [Act.put, List.setIfInBounds_toArray, List.set_cons_zero, List.set_cons_succ]
          refine takeH (i := 5) (d := some 42) (v := ?vA5) rfl rfl (by kernel_rfl) (by kernel_rfl) (by kernel_rfl) (fun _ _ _ h => h) (by rfl) ?hyA5 (by assumption) ?restA5
          case hyA5 => (intro W hSw; (try dsimp only at hSw); go_simp <;> with_reducible rfl)
          try simp only [Act.put, List.setIfInBounds_toArray, List.set_cons_zero, List.set_cons_succ]
          refine takeH (i := 6) (d := some 43) (v := ?vA6) rfl rfl (by kernel_rfl) (by kernel_rfl) (by kernel_rfl) (fun _ _ _ h => h) (by rfl) ?hyA6 (by assumption) ?restA6
          case hyA6 => (intro W hSw; (try dsimp only at hSw); go_simp <;> with_reducible rfl)
          try simp only [Act.put, List.setIfInBounds_toArray, List.set_cons_zero, List.set_cons_succ]
          refine takeH (i := 7) (d := some 44) (v := ?vA7) rfl rfl (by kernel_rfl) (by kernel_rfl) (by kernel_rfl) (fun _ _ _ h => h) (by rfl) ?hyA7 (by assumption) ?restA7
          case hyA7 => (intro W hSw; (try dsimp only at hSw); go_simp <;> with_reducible rfl)
          try simp only [Act.put, List.setIfInBounds_toArray, List.set_cons_zero, List.set_cons_succ]
          refine takeH (i := 8) (d := some 45) (v := ?vA8) rfl rfl (by kernel_rfl) (by kernel_rfl) (by kernel_rfl) (fun _ _ _ h => h) (by rfl) ?hyA8 (by assumption) ?restA8
          case hyA8 => (intro W hSw; (try dsimp only at hSw); go_simp <;> with_reducible rfl)
          try simp only [Act.put, List.setIfInBounds_toArray, List.set_cons_zero, List.set_cons_succ]
          refine takeH (i := 9) (d := some 46) (v := ?vA9) rfl rfl (by kernel_rfl) (by kernel_rfl) (by kernel_rfl) (fun _ _ _ h => h) (by rfl) ?hyA9 (by assumption) ?restA9
          case hyA9 => (intro W hSw; (try dsimp only at hSw); go_simp <;> with_reducible rfl)
          try simp only [Act.put, List.setIfInBounds_toArray, List.set_cons_zero, List.set_cons_succ]
          refine takeH (i := 10) (d := some 47) (v := ?vA10) rfl rfl (by kernel_rfl) (by kernel_rfl) (by kernel_rfl) (fun _ _ _ h => h) (by rfl) ?hyA10 (by assumption) ?restA10
          case hyA10 => (intro W hSw; (try dsimp only at hSw); go_simp <;> with_reducible rfl)
          try simp only [Act.put, List.setIfInBounds_toArray, List.set_cons_zero, List.set_cons_succ]
          refine takeH (i := 11) (d := some 48) (v := ?vA11) rfl rfl (by kernel_rfl) (by kernel_rfl) (by kernel_rfl) (fun _ _ _ h => h) (by rfl) ?hyA11 (by assumption) ?restA11
          case hyA11 => (intro W hSw; (try dsimp only at hSw); go_simp <;> with_reducible rfl)
          try simp only [Act.put, List.setIfInBounds_toArray, List.set_cons_zero, List.set_cons_succ]
          refine takeH (i := 12) (d := some 49) (v := ?vA12) rfl rfl (by kernel_rfl) (by kernel_rfl) (by kernel_rfl) (fun _ _ _ h => h) (by rfl) ?hyA12 (by assumption) ?restA12
          case hyA12 => (intro W hSw; (try dsimp only at hSw); go_simp <;> with_reducible rfl)
          try simp only [Act.put, List.setIfInBounds_toArray, List.set_cons_zero, List.set_cons_succ]
          refine takeH (i := 13) (d := some 50) (v := ?vA13) rfl rfl (by kernel_rfl) (by kernel_rfl) (by kernel_rfl) (fun _ _ _ h => h) (by rfl) ?hyA13 (by assumption) ?restA13
          case hyA13 => (intro W hSw; (try dsimp only at hSw); go_simp <;> with_reducible rfl)
          try simp only [Act.put, List.setIfInBounds_toArray, List.set_cons_zero, List.set_cons_succ]
          refine takeH (i := 14) (d := some 51) (v := ?vA14) rfl rfl (by kernel_rfl) (by kernel_rfl) (by kernel_rfl) (fun _ _ _ h => h) (by rfl) ?hyA14 (by assumption) ?restA14
          case hyA14 => (intro W hSw; (try dsimp only at hSw); go_simp <;> with_reducible rfl)
          try simp only [Act.put, List.setIfInBounds_toArray, List.set_cons_zero, List.set_cons_succ]
          refine wpAnyH_ready (rs := [15]) (by kernel_rfl) (by simp) ?_
          refine AllReadyH.cons rfl (fun K hK => ?_) AllReadyH.nil
          go_simp
          refine hK.out _ _ (show Q5 w b9 x0 x1 x2 x4 x5 _ from (k0.next (bel_fresh _))) (fun hHeld0 => ?_)
          clear hK K
          try simp only [Act.put, List.setIfInBounds_toArray, List.set_cons_zero, List.set_cons_succ]
          refine wpAnyH_ready (rs := [16]) (by kernel_rfl) (by simp) ?_
          refine AllReadyH.cons rfl (fun K hK => ?_) AllReadyH.nil
          go_simp
          have k1 : Q5 w b9 x0 x1 x2 x4 x5 _ := hHeld0
          go_at_call 56
          refine (hNu _ k0.bel).mono ?_
          rintro r w5 ⟨rfl, hb2⟩
          have k2 := k1.next hb2
          refine hK.out _ _ (show Q5 w b9 x0 x1 x2 x4 x5 _ from k2) (fun hHeld => ?_)
          clear hK K
          try simp only [Act.put, List.setIfInBounds_toArray, List.set_cons_zero, List.set_cons_succ]
          refine takeH (i := 17) (d := some 36) (v := ?vA17) rfl rfl (by kernel_rfl) (by kernel_rfl) (by kernel_rfl) (fun _ _ _ h => h) (by rfl) ?hyA17 (by assumption) ?restA17
          case hyA17 => (intro W hSw; (try dsimp only at hSw); go_simp <;> with_reducible rfl)
          try simp only [Act.put, List.setIfInBounds_toArray, List.set_cons_zero, List.set_cons_succ]
          refine takeH (i := 18) (d := some 54) (v := ?vA18) rfl rfl (by kernel_rfl) (by kernel_rfl) (by kernel_rfl) (fun _ _ _ h => h) (by rfl) ?hyA18 (by assumption) ?restA18
          case hyA18 => (intro W hSw; (try dsimp only at hSw); go_simp <;> with_reducible rfl)
          try simp only [Act.put, List.setIfInBounds_toArray, List.set_cons_zero, List.set_cons_succ]
          refine takeH (i := 19) (d := some 55) (v := ?vA19) rfl rfl (by kernel_rfl) (by kernel_rfl) (by kernel_rfl) (fun _ _ _ h => h) (by rfl) ?hyA19 (by assumption) ?restA19
          case hyA19 => (intro W hSw; (try dsimp only at hSw); go_simp <;> with_reducible rfl)
          try simp only [Act.put, List.setIfInBounds_toArray, List.set_cons_zero, List.set_cons_succ]
          refine takeH (i := 20) (d := some 8) (v := ?vA20) rfl rfl (by kernel_rfl) (by kernel_rfl) (by kernel_rfl) (fun _ _ _ h => h) (by rfl) ?hyA20 (by assumption) ?restA20
          case hyA20 => (intro W hSw; (try dsimp only at hSw); go_simp <;> with_reducible rfl)
          try simp only [Act.put, List.setIfInBounds_toArray, List.set_cons_zero, List.set_cons_succ]
          refine takeH (i := 21) (d := some 5) (v := ?vA21) rfl rfl (by kernel_rfl) (by kernel_rfl) (by kernel_rfl) (fun _ _ _ h => h) (by rfl) ?hyA21 (by assumption) ?restA21
          case hyA21 => (intro W hSw; (try dsimp only at hSw); go_simp <;> with_reducible rfl)
          try simp only [Act.put, List.setIfInBounds_toArray, List.set_cons_zero, List.set_cons_succ]
          refine wpAnyH_done (by kernel_rfl) ?_ _
          have p2 := (p6.drew.next (bel_fresh (o := .cells #[.string x0, .string x1, .string x2, .string x4, .string x5] 9) _)).next hb2
          have r5 := (NB.below (W := W4.drew) r4 (bel_fresh (o := .cells #[.string x0, .string x1, .string x2, .string x4, .string x5] 9) _)).below hb2
          have B5 := k2.bel
          obtain ⟨z0, z1, z2, z3, z4, z5, z6, z7, z8, z9⟩ := r5.cells
          have f0 := r5.fro 0
          have f1 := r5.fro 1
          have f2 := r5.fro 2
          have f3 := r5.fro 3
          have f4 := r5.fro 4
          have f5 := r5.fro 5
          have f6 := r5.fro 6
          have f7 := r5.fro 7
          have f8 := r5.fro 8
          have f9 := r5.fro 9
          clear k0 k1 k2 k4 p2 p6 r4 hHeld hHeld0 hb2
          cases o with
          | true =>
            go_wp2_with fail
            refine bodyPost_ret (v := .tuple #[Nd.zero.val, .bool false]) ?_ rfl (RNod.no HV.out (bel_set10 B5 (Nat.le_refl _) _ _ _ _ _ _ _ _ _ _))
            rw [results_cell_tmp rfl]
            go_simp
            rfl
          | false =>
            go_wp2_with fail
            refine bodyPost_ret (v := .tuple #[Nd.zero.val, .bool false]) ?_ rfl (RNod.no HV.out (bel_set10 B5 (Nat.le_refl _) _ _ _ _ _ _ _ _ _ _))
            rw [results_cell_tmp rfl]
            go_simp
            rfl
      · have HV : Hid (∀ tt, isRec s.data.toList tt → ¬ sixOk tt) := Lib.hid (rec_one hr (fun h => h6 h.2.1))
        have hq6 := str_end h6
        clear hr h6 h7 hE
        have r0 := NB.new w 0 0 0 0 0 0 0 0 0 0 33
        have B0 : Below w.heap.size w (w.alloc (.cells #[.int .i64 0, .int .i64 0, .int .i64 0, .int .i64 0, .int .i64 0, .int .i64 0, .int .i64 0, .int .i64 0, .int .i64 0, .int .i64 0] 33)) := bel_new (Below.refl _ _) _
        go_enter Tryd.func30, Tryd.ntmps30
        go_upto_region 1 with fail
        generalize hW0 : w.alloc (.cells #[.int .i64 0, .int .i64 0, .int .i64 0, .int .i64 0, .int .i64 0, .int .i64 0, .int .i64 0, .int .i64 0, .int .i64 0, .int .i64 0] 33) = W0 at r0 B0
        clear hW0
        have hG0 := hG W0 B0
        have l0 := r0.lt
        clear hG
        go_upto_region 2 with (go_at_call 54; refine hG0.mono ?_; rintro r w1 ⟨g, c, rfl, ho, hb1⟩; refine Hid.out ?_)
        refine Lib.hid ?_
        have r1 := r0.below hb1
        have B1 := B0.trans (hb1.mono B0.size)
        clear hG0 r0 B0
        obtain ⟨z0, z1, z2, z3, z4, z5, z6, z7, z8, z9⟩ := r1.cells
        have f0 := r1.fro 0
        have f1 := r1.fro 1
        have f2 := r1.fro 2
        have f3 := r1.fro 3
        have f4 := r1.fro 4
        have f5 := r1.fro 5
        have f6 := r1.fro 6
        have f7 := r1.fro 7
        have f8 := r1.fro 8
        have f9 := r1.fro 9
        have hA : StrsAt w1 (some ⟨g, 0, none⟩) [x0, x1, x2, x3, x4, x5, x6] := StrsAt.of_own ho rfl
        have hg0 := (ho.lt g rfl).1
        obtain ⟨b9, o9, e9, hlb, hc9⟩ := hA (by simp)
        obtain ⟨rfl, rfl⟩ : b9 = g ∧ o9 = 0 := by cases e9; exact ⟨rfl, rfl⟩
        have q6 : w1.cell? ⟨b9, 6, none⟩ = some (.string x6) := hc9 6 (by simp)
        clear ho hA hc9 e9
        go_wp2_with fail
        refine bodyPost_ret (v := .tuple #[Nd.zero.val, .bool false]) ?_ rfl (RNod.no HV.out (bel_set10 B1 (Nat.le_refl _) _ _ _ _ _ _ _ _ _ _))
        rw [results_cell_tmp rfl]
        go_simp
        rfl
    · have HV : Hid (∀ tt, isRec s.data.toList tt → ¬ sixOk tt) := Lib.hid (rec_one hr (fun h => h7 h.1))
      have hq7 : ((ss.length : Int) != 7) = true := by rw [bne_iff_ne]; omega
      clear hr h7 hE
      have r0 := NB.new w 0 0 0 0 0 0 0 0 0 0 33
      have B0 : Below w.heap.size w (w.alloc (.cells #[.int .i64 0, .int .i64 0, .int .i64 0, .int .i64 0, .int .i64 0, .int .i64 0, .int .i64 0, .int .i64 0, .int .i64 0, .int .i64 0] 33)) := bel_new (Below.refl _ _) _
      go_enter Tryd.func30, Tryd.ntmps30
      go_upto_region 1 with fail
      generalize hW0 : w.alloc (.cells #[.int .i64 0, .int .i64 0, .int .i64 0, .int .i64 0, .int .i64 0, .int .i64 0, .int .i64 0, .int .i64 0, .int .i64 0, .int .i64 0] 33) = W0 at r0 B0
      clear hW0
      have hG0 := hG W0 B0
      have l0 := r0.lt
      clear hG
      go_upto_region 2 with (go_at_call 54; refine hG0.mono ?_; rintro r w1 ⟨g, c, rfl, ho, hb1⟩; refine Hid.out ?_)
      refine Lib.hid ?_
      have r1 := r0.below hb1
      have B1 := B0.trans (hb1.mono B0.size)
      clear hG0 r0 B0
      obtain ⟨z0, z1, z2, z3, z4, z5, z6, z7, z8, z9⟩ := r1.cells
      have f0 := r1.fro 0
      have f1 := r1.fro 1
      have f2 := r1.fro 2
      have f3 := r1.fro 3
      have f4 := r1.fro 4
      have f5 := r1.fro 5
      have f6 := r1.fro 6
      have f7 := r1.fro 7
      have f8 := r1.fro 8
      have f9 := r1.fro 9
      clear ho
      go_wp2_with fail
      refine bodyPost_ret (v := .tuple #[Nd.zero.val, .bool false]) ?_ rfl (RNod.no HV.out (bel_set10 B1 (Nat.le_refl _) _ _ _ _ _ _ _ _ _ _))
      rw [results_cell_tmp rfl]
      go_simp
      rfl
  · have hno : ∀ ss, ¬ isRec s.data.toList ss := fun ss h => hex ⟨ss, h⟩
    have HV : Hid (∀ tt, isRec s.data.toList tt → ¬ sixOk tt) := Lib.hid (fun tt ht => absurd ht (hno tt))
    have hG : ∀ W, Below w.heap.size w W → Calls Tryd.prog 54 #[.string s] W fun e w' => ∃ A c, e = .returned (.tuple #[.slice A 0 c, .bool false]) ∧ Below W.heap.size W w' := fun W hb => (hG9 W hb).mono fun e w' ⟨hb, h⟩ => h.elim (fun ⟨tt, g, c, ht, _⟩ => absurd ht (hno tt)) (fun ⟨_, A, c, he⟩ => ⟨A, c, he, hb⟩)
    clear hno hex hG9 hE
    have r0 := NB.new w 0 0 0 0 0 0 0 0 0 0 33
    have B0 : Below w.heap.size w (w.alloc (.cells #[.int .i64 0, .int .i64 0, .int .i64 0, .int .i64 0, .int .i64 0, .int .i64 0, .int .i64 0, .int .i64 0, .int .i64 0, .int .i64 0] 33)) := bel_new (Below.refl _ _) _
    go_enter Tryd.func30, Tryd.ntmps30
    go_upto_region 1 with fail
    generalize hW0 : w.alloc (.cells #[.int .i64 0, .int .i64 0, .int .i64 0, .int .i64 0, .int .i64 0, .int .i64 0, .int .i64 0, .int .i64 0, .int .i64 0, .int .i64 0] 33) = W0 at r0 B0
    clear hW0
    have hG0 := hG W0 B0
    have l0 := r0.lt
    clear hG
    go_upto_region 2 with (go_at_call 54; refine hG0.mono ?_; rintro r w1 ⟨A, c, rfl, hb1⟩; refine Hid.out ?_)
    refine Lib.hid ?_
    have r1 := r0.below hb1
    have B1 := B0.trans (hb1.mono B0.size)
    clear hG0 r0 B0
    obtain ⟨z0, z1, z2, z3, z4, z5, z6, z7, z8, z9⟩ := r1.cells
    have f0 := r1.fro 0
    have f1 := r1.fro 1
    have f2 := r1.fro 2
    have f3 := r1.fro 3
    have f4 := r1.fro 4
    have f5 := r1.fro 5
    have f6 := r1.fro 6
    have f7 := r1.fro 7
    have f8 := r1.fro 8
    have f9 := r1.fro 9
    go_wp2_with fail
    refine bodyPost_ret (v := .tuple #[Nd.zero.val, .bool false]) ?_ rfl (RNod.no HV.out (bel_set10 B1 (Nat.le_refl _) _ _ _ _ _ _ _ _ _ _))
    rw [results_cell_tmp rfl]
    go_simp
    rfl
end Go.Proofs.YtehmaacbmkfedaaDoor
