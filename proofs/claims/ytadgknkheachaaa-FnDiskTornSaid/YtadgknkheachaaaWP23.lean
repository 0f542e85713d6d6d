/-
  FnDiskFlush's walk, where a drawn disk is at hand.
-/
import Derived.Test.YtadgknkheachaaaFlP
import Derived.Test.YtadgknkheachaaaFlI
import Derived.Test.YtadgknkheachaaaPf
import Derived.Test.YtadgknkheachaaaArgs
namespace Go.Proofs.Ytadgknkheachaaa
open Go.RowKit

/-- Some disk is drawn. -/
def DrawnPost (w : World) (r : Ending) (w' : World) : Prop :=
  ∃ (d : Dk) (Av : Option Addr) (c : Nat) (Bv : Option Addr) (e : Nat), r = .returned (.agg #[.slice Av d.cells.length c, .slice Bv d.waits.length e, .bool d.gone]) ∧ DkAt w' Av Bv d ∧ Bulk d ∧ Below w.heap.size w w'

/-- The cells of two boxes. -/
def SX (g h : Nat) (x y z x' y' z' : Value) (W : World) : Prop :=
  W.cell? ⟨g, 0, none⟩ = some x ∧ W.cell? ⟨g, 1, none⟩ = some y ∧ W.cell? ⟨g, 2, none⟩ = some z ∧ W.cell? ⟨h, 0, none⟩ = some x' ∧ W.cell? ⟨h, 1, none⟩ = some y' ∧ W.cell? ⟨h, 2, none⟩ = some z'
theorem SX.of {g h : Nat} {t t' : TypeId} {x y z x' y' z' : Value} {W : World} (a : Bx W g t x y z) (b : Bx W h t' x' y' z') : SX g h x y z x' y' z' W :=
  ⟨a.cells.1.1, a.cells.1.2.1, a.cells.1.2.2, b.cells.1.1, b.cells.1.2.1, b.cells.1.2.2⟩

set_option maxRecDepth 100000 in
set_option maxHeartbeats 8000000 in
theorem walk_flush (A : Option Addr) (n cap : Nat) (w : World) (hD : n ≤ 1048576 → Calls Try.prog 48 #[.slice A n cap] w (DrawnPost w)) :
    Calls Try.prog 15 #[.slice A n cap] w fun r w' => r = .returned (.bool true) ∧ Below w.heap.size w w' := by
  by_cases hbig : 1048576 < n
  · have hbig2 : (1048576 : Int) < (n : Int) := by omega
    clear hD hbig
    go_enter Try.func15, Try.ntmps15
    go_wp2
    go_ret
    exact ⟨rfl, Below.refl _ _⟩
  have hbig2 : ¬ (1048576 : Int) < (n : Int) := by omega
  have hD := hD (by omega)
  clear hbig
  go_enter Try.func15, Try.ntmps15
  go_wp2_with (go_at_call 48; refine hD.mono ?_; rintro r w1 ⟨d, A1, c1, B1, e1, rfl, h1, hd, hb1⟩; refine Hid.out ?_)
  refine Lib.hid ?_
  have bx := Bx.new w1 25 (.slice A1 d.cells.length c1) (.slice B1 d.waits.length e1) (.bool d.gone)
  have bl : Below w1.heap.size w1 (w1.alloc (.cells #[.slice A1 d.cells.length c1, .slice B1 d.waits.length e1, .bool d.gone] 25)) := bel_new (Below.refl _ _) _
  have BB := bel_then hb1 bl
  have h2 := h1.below bl
  have hI := impl_flush A1 B1 c1 e1 d _ hd h2
  obtain ⟨⟨x0, x1, x2⟩, _⟩ := bx.cells
  have hdF := bulk_flush hd
  have hff : DkOk d → flushD (flushD d) = flushD d := flush_flush d
  have hfn : ¬ DkOk d → (flushD d).cells.length = 0 := flush_none
  have hfl : DkOk d → (flushD d).cells.length = 64 := flush_len
  have hfw : (flushD d).waits.length = 0 := by rw [flush_waits]; rfl
  have hSp := fun A B c e W hW => spec_flush A B c e d W hd hW
  have hCr := fun A B c e W hW => impl_crash A B c e d 1152921504606846975 (-1) W hd hW (by decide)
  have hIF := fun A B c e W hW => impl_flush A B c e (flushD d) W hdF hW
  have hcf : crashD d 1152921504606846975 (-1) = flushD d := rfl
  simp only [hcf] at hCr
  obtain ⟨D, hDD⟩ : ∃ D, D = flushD d := ⟨_, rfl⟩
  simp only [← hDD] at hI hdF hff hfn hfl hfw hSp hCr hIF
  have HFW := Lib.hid hfw
  clear hcf hDD hD hb1 bl h1 hfw
  go_wp2_with (go_at_call 36; refine hI.mono ?_; rintro r w3 ⟨A3, c3, B3, e3, rfl, o3, hb3⟩; refine Hid.out ?_)
  refine Lib.hid ?_
  have bx := bx.below hb3
  have BB := bel_then BB hb3
  have h2 := h2.below hb3
  have b3 := Bx.new w3 25 (.slice A3 D.cells.length c3) (.slice B3 D.waits.length e3) (.bool D.gone)
  have bl : Below w3.heap.size w3 (w3.alloc (.cells #[.slice A3 D.cells.length c3, .slice B3 D.waits.length e3, .bool D.gone] 25)) := bel_new (Below.refl _ _) _
  have BB := bel_then BB bl
  have bx := bx.below bl
  have h2 := h2.below bl
  have o3 := o3.below bl
  clear hI hb3 bl x0 x1 x2
  obtain ⟨⟨x0, x1, x2⟩, _⟩ := bx.cells
  have hS := hSp A1 B1 c1 e1 _ h2
  go_wp2_with (go_at_call 35; refine hS.mono ?_; rintro r w5 ⟨A5, c5, B5, e5, rfl, o5, hb5⟩; refine Hid.out ?_)
  refine Lib.hid ?_
  have BB := bel_then BB hb5
  have bx := bx.below hb5
  have b3 := b3.below hb5
  have h2 := h2.below hb5
  have o3 := o3.below hb5
  have b5 := Bx.new w5 25 (.slice A5 D.cells.length c5) (.slice B5 D.waits.length e5) (.bool D.gone)
  have bl : Below w5.heap.size w5 (w5.alloc (.cells #[.slice A5 D.cells.length c5, .slice B5 D.waits.length e5, .bool D.gone] 25)) := bel_new (Below.refl _ _) _
  have BB := bel_then BB bl
  have bx := bx.below bl
  have b3 := b3.below bl
  have h2 := h2.below bl
  have o3 := o3.below bl
  have o5 := o5.below bl
  clear hS hSp hb5 bl x0 x1 x2
  obtain ⟨⟨x0, x1, x2⟩, _⟩ := b3.cells
  obtain ⟨⟨y0, y1, y2⟩, _⟩ := b5.cells
  have hP := pf_own hdF.cells hdF.waits o3 o5
  go_wp2_with (go_at_call 43; refine hP.mono ?_; rintro r w7 ⟨rfl, hb7⟩; refine Hid.out ?_)
  refine Lib.hid ?_
  have BB := bel_then BB hb7
  have bx := bx.below hb7
  have b3 := b3.below hb7
  have h2 := h2.below hb7
  have o3 := o3.below hb7
  clear hP hb7 x0 x1 x2 y0 y1 y2 o5 b5
  obtain ⟨⟨x0, x1, x2⟩, _⟩ := bx.cells
  obtain ⟨⟨y0, y1, y2⟩, _⟩ := b3.cells
  by_cases hok : DkOk d
  · have hl := hfl hok
    have hF := hff hok
    rw [hF] at hIF
    have hpos : 0 < D.cells.length := by omega
    have hw0 : ((D.waits.length : Int) == 0) = true := by rw [HFW.out]; rfl
    clear hl hF hfl hfn hff hok
    go_upto_region 9 with fail
    have bxd : Bx w7.drew w1.heap.size 25 _ _ _ := bx
    have b3d : Bx w7.drew w3.heap.size 25 _ _ _ := b3
    have h2d : DkAt w7.drew A1 B1 d := h2
    have o3d : DkOwn w7.drew _ _ D := o3
    have BBd := BB.drew
    clear x0 x1 x2 y0 y1 y2 bx b3 h2 o3 BB
    go_region_held3 (fun W => W.cell? ⟨w1.heap.size, 0, none⟩ = some (.slice A1 d.cells.length c1) ∧ W.cell? ⟨w1.heap.size, 1, none⟩ = some (.slice B1 d.waits.length e1) ∧ W.cell? ⟨w1.heap.size, 2, none⟩ = some (.bool d.gone) ∧ W.cell? ⟨w3.heap.size, 0, none⟩ = some (.slice A3 D.cells.length c3) ∧ W.cell? ⟨w3.heap.size, 1, none⟩ = some (.slice B3 D.waits.length e3) ∧ W.cell? ⟨w3.heap.size, 2, none⟩ = some (.bool D.gone))
      ((show SX w1.heap.size w3.heap.size (.slice A1 d.cells.length c1) (.slice B1 d.waits.length e1) (.bool d.gone) (.slice A3 D.cells.length c3) (.slice B3 D.waits.length e3) (.bool D.gone) _; with_reducible (first | exact SX.of bxd b3d | exact SX.of bx8 b8 | exact SX.of bx9 b9 | exact SX.of bx10 b10 | exact SX.of bx11 b11)))
      (first
        | (go_at_call 38; refine (hCr A1 B1 c1 e1 _ h2d).mono ?_; rintro r w8 ⟨A8, c8, B8, e8, rfl, o8, hb8⟩; have bx8 := bxd.below hb8; have b8 := b3d.below hb8; have o38 := o3d.below hb8; have B8' := bel_then BBd hb8; have E := pf_own hdF.cells hdF.waits o8 o38)
        | (go_at_call 36; refine (hIF A3 B3 c3 e3 _ o39.lies).mono ?_; rintro r w10 ⟨A10, c10, B10, e10, rfl, o10, hb10⟩; have bx10 := bx9.below hb10; have b10 := b9.below hb10; have o310 := o39.below hb10; have B10' := bel_then B9' hb10; have F := pf_own hdF.cells hdF.waits o10 o310)
        | (go_at_call 43; refine F.mono ?_; rintro r w11 ⟨rfl, hb11⟩; have bx11 := bx10.below hb11; have b11 := b10.below hb11; have B11' := bel_then B10' hb11)
        | (go_at_call 43; refine E.mono ?_; rintro r w9 ⟨rfl, hb9⟩; have bx9 := bx8.below hb9; have b9 := b8.below hb9; have o39 := o38.below hb9; have B9' := bel_then B8' hb9))
    go_wp2_with fail
    go_ret
    exact ⟨rfl, B11'⟩
  · have hl := hfn hok
    have hneg : ¬ 0 < D.cells.length := by omega
    clear hl hfl hfn hff hok hIF hCr
    go_wp2_with fail
    go_ret
    exact ⟨rfl, BB⟩
end Go.Proofs.Ytadgknkheachaaa
