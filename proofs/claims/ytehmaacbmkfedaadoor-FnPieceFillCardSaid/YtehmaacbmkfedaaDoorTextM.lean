/-
  The text of a pointer as the program writes it.
-/
import Derived.Test.YtehmaacbmkfedaaDoorTextI
import Derived.Laws.Rows
namespace Go.Proofs.YtehmaacbmkfedaaDoor
open Go.RowKit

theorem HP.more {w W : World} {a b c d e : Int} (h : HP w a b c d e W) (o : Obj) : HP w a b c d e (W.alloc o) := h.next (bel_new (Below.refl _ _) _)

theorem HP.lt {w W : World} {a b c d e : Int} (h : HP w a b c d e W) : w.heap.size < W.heap.size := h.2.2.2.2.2.1
theorem HP.bel {w W : World} {a b c d e : Int} (h : HP w a b c d e W) : Below w.heap.size w W := h.2.2.2.2.2.2
def Arr (b g : Nat) (W : World) : Prop := b < g ∧ W.heap[g]? = some (.cells #[.string ⟨#[]⟩, .string ⟨#[]⟩, .string ⟨#[]⟩, .string ⟨#[]⟩, .string ⟨#[]⟩] 109 (0, 0))
theorem Arr.lt {b g : Nat} {W : World} (h : Arr b g W) : g < W.heap.size := (Array.getElem?_eq_some_iff.1 h.2).1
theorem Arr.new {b : Nat} {W w' : World} (hb : Below (W.alloc (.cells #[.string ⟨#[]⟩, .string ⟨#[]⟩, .string ⟨#[]⟩, .string ⟨#[]⟩, .string ⟨#[]⟩] 109)).heap.size (W.alloc (.cells #[.string ⟨#[]⟩, .string ⟨#[]⟩, .string ⟨#[]⟩, .string ⟨#[]⟩, .string ⟨#[]⟩] 109)) w') (h : b < W.heap.size) : Arr b W.heap.size w' :=
  ⟨h, (hb.block _ (by simp)).trans (heap_alloc_new W _)⟩
theorem Arr.next {b g : Nat} {W W' : World} (h : Arr b g W) (hb : Below W.heap.size W W') : Arr b g W' := ⟨h.1, (hb.block g h.lt).trans h.2⟩
theorem Arr.cell {b g : Nat} {W : World} (h : Arr b g W) (k : Nat) (hk : k < 5) : W.cell? ⟨g, k, none⟩ = some (.string ⟨#[]⟩) := by
  have h2 := h.2
  rcases (show k = 0 ∨ k = 1 ∨ k = 2 ∨ k = 3 ∨ k = 4 by omega) with rfl | rfl | rfl | rfl | rfl <;> simp [World.cell?, h2]
theorem Arr.free {b g : Nat} {W : World} (h : Arr b g W) (k : Nat) : W.frozen? ⟨g, k, none⟩ = false := by
  have h2 := h.2
  simp [World.frozen?, h2]
theorem HP.set {w W : World} {a b c d e : Int} (h : HP w a b c d e W) {g : Nat} (hg : w.heap.size < g) (k : Nat) (v : Value) : HP w a b c d e (W.setCell ⟨g, k, none⟩ v) := by
  obtain ⟨h0, h1, h2, h3, h4, hl, hw⟩ := h
  have hx : ∀ j, (W.setCell ⟨g, k, none⟩ v).cell? ⟨w.heap.size, j, none⟩ = W.cell? ⟨w.heap.size, j, none⟩ := fun j => by
    rw [World.cell?_setCell_other]
    intro he
    have := congrArg Addr.block he
    simp only at this
    omega
  exact ⟨(hx 0).trans h0, (hx 1).trans h1, (hx 2).trans h2, (hx 3).trans h3, (hx 4).trans h4, by simpa [World.setCell] using hl, hw.setCell (Nat.le_of_lt hg) v⟩

theorem num_short (a : Int) : (numText a).length ≤ 9 := by
  unfold numText
  split
  · exact (dec_good _ (by omega)).2.1
  · simp

theorem join_five (x y z u v : List UInt8) : Lib.join [x, y, z, u, v] [46] = joinB x y z u v := by
  simp [Lib.join, List.intercalate, List.intersperse, joinB]

theorem join5 (g : Nat) (x y z u v : List UInt8) (W : World) (hx : x.length ≤ 9) (hy : y.length ≤ 9) (hz : z.length ≤ 9) (hu : u.length ≤ 9) (hv : v.length ≤ 9) (hg : g < W.heap.size)
    (h0 : W.cell? ⟨g, 0, none⟩ = some (.string (strOf x))) (h1 : W.cell? ⟨g, 1, none⟩ = some (.string (strOf y))) (h2 : W.cell? ⟨g, 2, none⟩ = some (.string (strOf z))) (h3 : W.cell? ⟨g, 3, none⟩ = some (.string (strOf u))) (h4 : W.cell? ⟨g, 4, none⟩ = some (.string (strOf v))) :
    Calls Tryd.prog 76 #[.slice (some ⟨g, 0, none⟩) 5 5, .string ⟨#[46]⟩] W fun e w' => e = .returned (.string (strOf (joinB x y z u v))) ∧ Below W.heap.size W w' := by
  have hm : ([strOf x, strOf y, strOf z, strOf u, strOf v].map (·.data.toList)) = [x, y, z, u, v] := by simp [strOf_toList]
  have hj : Lib.join ([strOf x, strOf y, strOf z, strOf u, strOf v].map (·.data.toList)) (⟨#[46]⟩ : ByteArray).data.toList = joinB x y z u v := by
    rw [hm]
    exact join_five x y z u v
  have h := Tryd.strings_Join g 0 5 [strOf x, strOf y, strOf z, strOf u, strOf v] ⟨#[46]⟩ W (fun j s hs => by
    match j, hs with
    | 0, hs => cases hs; exact h0
    | 1, hs => cases hs; exact h1
    | 2, hs => cases hs; exact h2
    | 3, hs => cases hs; exact h3
    | 4, hs => cases hs; exact h4
    | j + 5, hs => simp at hs) hg (by simp) (by simp) (by rw [hj]; simp [joinB]; omega)
  rw [hj] at h
  exact h

theorem join5s {b g : Nat} {W : World} (Z : Arr b g W) (x y z u v : List UInt8) (hx : x.length ≤ 9) (hy : y.length ≤ 9) (hz : z.length ≤ 9) (hu : u.length ≤ 9) (hv : v.length ≤ 9) :
    Calls Tryd.prog 76 #[.slice (some ⟨g, 0, none⟩) 5 5, .string ⟨#[46]⟩] (((((W.setCell ⟨g, 0, none⟩ (.string (strOf x))).setCell ⟨g, 1, none⟩ (.string (strOf y))).setCell ⟨g, 2, none⟩ (.string (strOf z))).setCell ⟨g, 3, none⟩ (.string (strOf u))).setCell ⟨g, 4, none⟩ (.string (strOf v)))
      fun e w' => e = .returned (.string (strOf (joinB x y z u v))) ∧ Below (((((W.setCell ⟨g, 0, none⟩ (.string (strOf x))).setCell ⟨g, 1, none⟩ (.string (strOf y))).setCell ⟨g, 2, none⟩ (.string (strOf z))).setCell ⟨g, 3, none⟩ (.string (strOf u))).setCell ⟨g, 4, none⟩ (.string (strOf v))).heap.size (((((W.setCell ⟨g, 0, none⟩ (.string (strOf x))).setCell ⟨g, 1, none⟩ (.string (strOf y))).setCell ⟨g, 2, none⟩ (.string (strOf z))).setCell ⟨g, 3, none⟩ (.string (strOf u))).setCell ⟨g, 4, none⟩ (.string (strOf v))) w' := by
  have z0 := Z.cell 0 (by decide)
  have z1 := Z.cell 1 (by decide)
  have z2 := Z.cell 2 (by decide)
  have z3 := Z.cell 3 (by decide)
  have z4 := Z.cell 4 (by decide)
  have e01 : ∀ i j : Nat, i ≠ j → (⟨g, i, none⟩ : Addr) ≠ ⟨g, j, none⟩ := fun i j h e => h (congrArg Addr.off e)
  refine join5 g x y z u v _ hx hy hz hu hv (by simpa [World.setCell] using Z.lt) ?_ ?_ ?_ ?_ ?_
  · rw [World.cell?_setCell_other (h := e01 4 0 (by decide)), World.cell?_setCell_other (h := e01 3 0 (by decide)), World.cell?_setCell_other (h := e01 2 0 (by decide)), World.cell?_setCell_other (h := e01 1 0 (by decide)), World.cell?_setCell_same (h := z0)]
  · rw [World.cell?_setCell_other (h := e01 4 1 (by decide)), World.cell?_setCell_other (h := e01 3 1 (by decide)), World.cell?_setCell_other (h := e01 2 1 (by decide)), World.cell?_setCell_same (u := .string ⟨#[]⟩)]
    rw [World.cell?_setCell_other (h := e01 0 1 (by decide)), z1]
  · rw [World.cell?_setCell_other (h := e01 4 2 (by decide)), World.cell?_setCell_other (h := e01 3 2 (by decide)), World.cell?_setCell_same (u := .string ⟨#[]⟩)]
    rw [World.cell?_setCell_other (h := e01 1 2 (by decide)), World.cell?_setCell_other (h := e01 0 2 (by decide)), z2]
  · rw [World.cell?_setCell_other (h := e01 4 3 (by decide)), World.cell?_setCell_same (u := .string ⟨#[]⟩)]
    rw [World.cell?_setCell_other (h := e01 2 3 (by decide)), World.cell?_setCell_other (h := e01 1 3 (by decide)), World.cell?_setCell_other (h := e01 0 3 (by decide)), z3]
  · rw [World.cell?_setCell_same (u := .string ⟨#[]⟩)]
    rw [World.cell?_setCell_other (h := e01 3 4 (by decide)), World.cell?_setCell_other (h := e01 2 4 (by decide)), World.cell?_setCell_other (h := e01 1 4 (by decide)), World.cell?_setCell_other (h := e01 0 4 (by decide)), z4]

set_option maxHeartbeats 500000 in
theorem m_text (a b c d e : Int) (w : World) (h : inAll a b c d e) (hh : isHole a b c d e = false) (hT : Lib.TabBelow Tryd.prog w.heap.size w "internal/strconv.uint64pow10" .u64 Lib.pow10Tab) :
    Calls Tryd.prog 51 #[.agg #[.int .i64 a, .int .i64 b, .int .i64 c, .int .i64 d, .int .i64 e]] w fun r w' => r = .returned (.string (strOf (joinB (numText a) (numText b) (numText c) (numText d) (numText e)))) ∧ Below w.heap.size w w' := by
  have hM : ∀ w, Calls Tryd.prog 73 #[.agg #[.int .i64 a, .int .i64 b, .int .i64 c, .int .i64 d, .int .i64 e]] w fun r w' => r = .returned (.bool false) ∧ Below w.heap.size w w' := fun w => (m_hole a b c d e w).mono fun r w' ⟨h1, h2⟩ => ⟨by rw [h1, hh], by rw [h2]; exact bel_new (Below.refl _ _) _⟩
  have hN := fun (x : Int) (W : World) (hb : Below w.heap.size w W) => impl_num x W (hT.on hb).here
  have hA := hN a
  have hB := hN b
  have hC := hN c
  have hDD := hN d
  have hE := hN e
  have la := num_short a
  have lb := num_short b
  have lc := num_short c
  have ld := num_short d
  have le := num_short e
  obtain ⟨da, hda⟩ : ∃ x, x = numText a := ⟨_, rfl⟩
  obtain ⟨db, hdb⟩ : ∃ x, x = numText b := ⟨_, rfl⟩
  obtain ⟨dc, hdc⟩ : ∃ x, x = numText c := ⟨_, rfl⟩
  obtain ⟨dd, hdd⟩ : ∃ x, x = numText d := ⟨_, rfl⟩
  obtain ⟨de, hde⟩ : ∃ x, x = numText e := ⟨_, rfl⟩
  rw [← hda] at hA la
  rw [← hdb] at hB lb
  rw [← hdc] at hC lc
  rw [← hdd] at hDD ld
  rw [← hde] at hE le
  rw [← hda, ← hdb, ← hdc, ← hdd, ← hde]
  clear hN hda hdb hdc hdd hde h hh hT
  go_enter Tryd.func51, Tryd.ntmps51
  go_wp2_with (go_at_call 73; refine (hM _).mono ?_; rintro r w2 ⟨rfl, hb2⟩; refine Hid.out ?_)
  refine Lib.hid ?_
  have H2 := (HP.new w a b c d e 29).next hb2
  have H3 := H2.drew
  clear hb2 hM
  go_wp2_with fail
  go_region_held3 (fun W => W.cell? ⟨w.heap.size, 0, none⟩ = some (.int .i64 a) ∧ W.cell? ⟨w.heap.size, 1, none⟩ = some (.int .i64 b) ∧ W.cell? ⟨w.heap.size, 2, none⟩ = some (.int .i64 c) ∧ W.cell? ⟨w.heap.size, 3, none⟩ = some (.int .i64 d) ∧ W.cell? ⟨w.heap.size, 4, none⟩ = some (.int .i64 e) ∧ w.heap.size < W.heap.size ∧ Below w.heap.size w W)
    ((show HP w a b c d e _; with_reducible (first | exact H3 | exact HP.drew (HP.more H2 _) | exact HP.next hp hb | exact HP.next (HP.drew (HP.more H2 _)) hb | exact HP.next (HP.more hp _) hb | exact HP.next H3 hb | exact HP.next (HP.more H3 _) hb | exact hp | exact HP.more hp _ | exact HP.more H3 _ | exact HP.set (HP.set (HP.set (HP.set (HP.set hp zl _ _) zl _ _) zl _ _) zl _ _) zl _ _)))
    (first | (go_at_call_of 50 (Value.int .i64 a); refine (hA _ ?_).mono ?_; (exact HP.bel (by assumption)); rintro r w' ⟨rfl, hb⟩; have hp := HP.next (w := w) (a := a) (b := b) (c := c) (d := d) (e := e) (by assumption) hb; (first | (have Z := Arr.new hb (HP.lt (by assumption)); have z0 := Z.cell 0 (by decide); have z1 := Z.cell 1 (by decide); have z2 := Z.cell 2 (by decide); have z3 := Z.cell 3 (by decide); have z4 := Z.cell 4 (by decide); have f0 := Z.free 0; have f1 := Z.free 1; have f2 := Z.free 2; have f3 := Z.free 3; have f4 := Z.free 4; have zl := Z.1; have zm := Z.lt) | (have Z := Arr.new (((Below.refl _ _).drew).trans hb) (HP.lt H2); have z0 := Z.cell 0 (by decide); have z1 := Z.cell 1 (by decide); have z2 := Z.cell 2 (by decide); have z3 := Z.cell 3 (by decide); have z4 := Z.cell 4 (by decide); have f0 := Z.free 0; have f1 := Z.free 1; have f2 := Z.free 2; have f3 := Z.free 3; have f4 := Z.free 4; have zl := Z.1; have zm := Z.lt) | (have Z := Arr.next (by assumption) hb; have z0 := Z.cell 0 (by decide); have z1 := Z.cell 1 (by decide); have z2 := Z.cell 2 (by decide); have z3 := Z.cell 3 (by decide); have z4 := Z.cell 4 (by decide); have f0 := Z.free 0; have f1 := Z.free 1; have f2 := Z.free 2; have f3 := Z.free 3; have f4 := Z.free 4; have zl := Z.1; have zm := Z.lt) | skip)) | (go_at_call_of 50 (Value.int .i64 b); refine (hB _ ?_).mono ?_; (exact HP.bel (by assumption)); rintro r w' ⟨rfl, hb⟩; have hp := HP.next (w := w) (a := a) (b := b) (c := c) (d := d) (e := e) (by assumption) hb; (first | (have Z := Arr.new hb (HP.lt (by assumption)); have z0 := Z.cell 0 (by decide); have z1 := Z.cell 1 (by decide); have z2 := Z.cell 2 (by decide); have z3 := Z.cell 3 (by decide); have z4 := Z.cell 4 (by decide); have f0 := Z.free 0; have f1 := Z.free 1; have f2 := Z.free 2; have f3 := Z.free 3; have f4 := Z.free 4; have zl := Z.1; have zm := Z.lt) | (have Z := Arr.new (((Below.refl _ _).drew).trans hb) (HP.lt H2); have z0 := Z.cell 0 (by decide); have z1 := Z.cell 1 (by decide); have z2 := Z.cell 2 (by decide); have z3 := Z.cell 3 (by decide); have z4 := Z.cell 4 (by decide); have f0 := Z.free 0; have f1 := Z.free 1; have f2 := Z.free 2; have f3 := Z.free 3; have f4 := Z.free 4; have zl := Z.1; have zm := Z.lt) | (have Z := Arr.next (by assumption) hb; have z0 := Z.cell 0 (by decide); have z1 := Z.cell 1 (by decide); have z2 := Z.cell 2 (by decide); have z3 := Z.cell 3 (by decide); have z4 := Z.cell 4 (by decide); have f0 := Z.free 0; have f1 := Z.free 1; have f2 := Z.free 2; have f3 := Z.free 3; have f4 := Z.free 4; have zl := Z.1; have zm := Z.lt) | skip)) | (go_at_call_of 50 (Value.int .i64 c); refine (hC _ ?_).mono ?_; (exact HP.bel (by assumption)); rintro r w' ⟨rfl, hb⟩; have hp := HP.next (w := w) (a := a) (b := b) (c := c) (d := d) (e := e) (by assumption) hb; (first | (have Z := Arr.new hb (HP.lt (by assumption)); have z0 := Z.cell 0 (by decide); have z1 := Z.cell 1 (by decide); have z2 := Z.cell 2 (by decide); have z3 := Z.cell 3 (by decide); have z4 := Z.cell 4 (by decide); have f0 := Z.free 0; have f1 := Z.free 1; have f2 := Z.free 2; have f3 := Z.free 3; have f4 := Z.free 4; have zl := Z.1; have zm := Z.lt) | (have Z := Arr.new (((Below.refl _ _).drew).trans hb) (HP.lt H2); have z0 := Z.cell 0 (by decide); have z1 := Z.cell 1 (by decide); have z2 := Z.cell 2 (by decide); have z3 := Z.cell 3 (by decide); have z4 := Z.cell 4 (by decide); have f0 := Z.free 0; have f1 := Z.free 1; have f2 := Z.free 2; have f3 := Z.free 3; have f4 := Z.free 4; have zl := Z.1; have zm := Z.lt) | (have Z := Arr.next (by assumption) hb; have z0 := Z.cell 0 (by decide); have z1 := Z.cell 1 (by decide); have z2 := Z.cell 2 (by decide); have z3 := Z.cell 3 (by decide); have z4 := Z.cell 4 (by decide); have f0 := Z.free 0; have f1 := Z.free 1; have f2 := Z.free 2; have f3 := Z.free 3; have f4 := Z.free 4; have zl := Z.1; have zm := Z.lt) | skip)) | (go_at_call_of 50 (Value.int .i64 d); refine (hDD _ ?_).mono ?_; (exact HP.bel (by assumption)); rintro r w' ⟨rfl, hb⟩; have hp := HP.next (w := w) (a := a) (b := b) (c := c) (d := d) (e := e) (by assumption) hb; (first | (have Z := Arr.new hb (HP.lt (by assumption)); have z0 := Z.cell 0 (by decide); have z1 := Z.cell 1 (by decide); have z2 := Z.cell 2 (by decide); have z3 := Z.cell 3 (by decide); have z4 := Z.cell 4 (by decide); have f0 := Z.free 0; have f1 := Z.free 1; have f2 := Z.free 2; have f3 := Z.free 3; have f4 := Z.free 4; have zl := Z.1; have zm := Z.lt) | (have Z := Arr.new (((Below.refl _ _).drew).trans hb) (HP.lt H2); have z0 := Z.cell 0 (by decide); have z1 := Z.cell 1 (by decide); have z2 := Z.cell 2 (by decide); have z3 := Z.cell 3 (by decide); have z4 := Z.cell 4 (by decide); have f0 := Z.free 0; have f1 := Z.free 1; have f2 := Z.free 2; have f3 := Z.free 3; have f4 := Z.free 4; have zl := Z.1; have zm := Z.lt) | (have Z := Arr.next (by assumption) hb; have z0 := Z.cell 0 (by decide); have z1 := Z.cell 1 (by decide); have z2 := Z.cell 2 (by decide); have z3 := Z.cell 3 (by decide); have z4 := Z.cell 4 (by decide); have f0 := Z.free 0; have f1 := Z.free 1; have f2 := Z.free 2; have f3 := Z.free 3; have f4 := Z.free 4; have zl := Z.1; have zm := Z.lt) | skip)) | (go_at_call_of 50 (Value.int .i64 e); refine (hE _ ?_).mono ?_; (exact HP.bel (by assumption)); rintro r w' ⟨rfl, hb⟩; have hp := HP.next (w := w) (a := a) (b := b) (c := c) (d := d) (e := e) (by assumption) hb; (first | (have Z := Arr.new hb (HP.lt (by assumption)); have z0 := Z.cell 0 (by decide); have z1 := Z.cell 1 (by decide); have z2 := Z.cell 2 (by decide); have z3 := Z.cell 3 (by decide); have z4 := Z.cell 4 (by decide); have f0 := Z.free 0; have f1 := Z.free 1; have f2 := Z.free 2; have f3 := Z.free 3; have f4 := Z.free 4; have zl := Z.1; have zm := Z.lt) | (have Z := Arr.new (((Below.refl _ _).drew).trans hb) (HP.lt H2); have z0 := Z.cell 0 (by decide); have z1 := Z.cell 1 (by decide); have z2 := Z.cell 2 (by decide); have z3 := Z.cell 3 (by decide); have z4 := Z.cell 4 (by decide); have f0 := Z.free 0; have f1 := Z.free 1; have f2 := Z.free 2; have f3 := Z.free 3; have f4 := Z.free 4; have zl := Z.1; have zm := Z.lt) | (have Z := Arr.next (by assumption) hb; have z0 := Z.cell 0 (by decide); have z1 := Z.cell 1 (by decide); have z2 := Z.cell 2 (by decide); have z3 := Z.cell 3 (by decide); have z4 := Z.cell 4 (by decide); have f0 := Z.free 0; have f1 := Z.free 1; have f2 := Z.free 2; have f3 := Z.free 3; have f4 := Z.free 4; have zl := Z.1; have zm := Z.lt) | skip)))
  all_goals clear hA hB hC hDD hE
  all_goals rename_i hH
  all_goals first
    | have cJ := join5s Z da db dc dd de la lb lc ld le
    | (rename World => W0; have cJ := join5 W0.heap.size da db dc dd de (W0.alloc (.cells #[.string (strOf da), .string (strOf db), .string (strOf dc), .string (strOf dd), .string (strOf de)] 109)) la lb lc ld le (by simp) (by rw [World.cell?_alloc_mark]; rfl) (by rw [World.cell?_alloc_mark]; rfl) (by rw [World.cell?_alloc_mark]; rfl) (by rw [World.cell?_alloc_mark]; rfl) (by rw [World.cell?_alloc_mark]; rfl))
  all_goals have hbb := HP.bel (w := w) (a := a) (b := b) (c := c) (d := d) (e := e) hH
  all_goals clear hH
  all_goals go_wp2_with (go_at_call 76; refine cJ.mono ?_; rintro r w9 ⟨rfl, hb9⟩)
  all_goals go_ret
  all_goals exact ⟨rfl, bel_then hbb hb9⟩

end Go.Proofs.YtehmaacbmkfedaaDoor
