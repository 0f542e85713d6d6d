/-
  FnExactRaidOk's walk.
-/
import Derived.Test.YtndckncoipkhaaaRFs
namespace Go.Proofs.Ytndckncoipkhaaa
open Go.RowKit

set_option maxRecDepth 100000 in
set_option maxHeartbeats 8000000 in
theorem walk_eok (A : Option Addr) (c : Nat) (ps : List RD) (w : World) (hA : RArg w A ps) :
    Calls Try.prog 4 #[.agg #[.slice A ps.length c]] w fun r w' => r = .returned (.bool true) ∧ Below w.heap.size w w' := by
  have ba := B1.new w 31 (.slice A ps.length c)
  have BB := bel_new (Below.refl w.heap.size w) (.cells #[.slice A ps.length c] 31)
  have hS := fun W (hW : Below w.heap.size w W) => sz_raid A c ps 1048576 W (by omega) (by omega) hA.n hA.f (hA.at_.below hW)
  obtain ⟨_, hF, hA⟩ := hA
  go_enter Try.func4, Try.ntmps4
  go_wp2_with (go_at_call 16; refine (hS _ BB).mono ?_; rintro r w1 ⟨z, rfl, hb1, hz⟩; refine Hid.out ?_)
  refine Lib.hid ?_
  have ba := ba.below hb1
  have BB := bel_then BB hb1
  have sw1 := hb1.size
  rw [World.size_alloc] at sw1
  clear hS hb1
  obtain ⟨x0, _⟩ := ba.cells
  by_cases hzz : z < 0
  · go_wp2_with fail
    go_ret
    exact ⟨rfl, BB⟩
  have hzn : ¬ z < 0 := hzz
  have HSx := small_arg hF (hz (by omega)) (by omega)
  have hn := (HSx.of rfl).1
  have hfp := (HSx.of rfl).2
  clear hF hz
  have hT := fun W (hW : Below w.heap.size w W) => to_raid A c ps W hn hfp (hA.below hW)
  clear hA
  have hSp : ∀ (A : Option Addr) (c : Nat) (qs : List RD) (W : World), dks qs = dks ps → RAt W A qs → Calls Try.prog 17 #[.agg #[.slice A qs.length c]] W fun r w' => r = .returned (.bool (okR (dks ps))) ∧ Below W.heap.size W w' := fun A c qs W hq hW => by
    have := spec_rok A c qs W (HSx.of hq).1 (HSx.of hq).2 hW
    rwa [hq] at this
  have hIm : ∀ (A : Option Addr) (c : Nat) (qs : List RD) (W : World), dks qs = dks ps → RAt W A qs → Calls Try.prog 19 #[.agg #[.slice A qs.length c]] W fun r w' => r = .returned (.bool (okR (dks ps))) ∧ Below W.heap.size W w' := fun A c qs W hq hW => by
    have := impl_rok A c qs W (HSx.of hq).1 (HSx.of hq).2 hW
    rwa [hq] at this
  obtain ⟨X, hX⟩ : ∃ X, X = dks ps := ⟨_, rfl⟩
  simp only [← hX] at hT hSp hIm HSx
  obtain ⟨b, hb⟩ : ∃ b, b = okR X := ⟨_, rfl⟩
  simp only [← hb] at hSp hIm
  clear hX hb hn hfp
  have nb : (b != b) = false := by simp
  go_wp2_with (go_at_call 18; refine (hT _ BB).mono ?_; rintro r w2 ⟨pv, Av, cv, rfl, dv, fv, hb2⟩; refine Hid.out ?_)
  refine Lib.hid ?_
  have sw2 := hb2.size
  have ba := ba.below hb2
  have BB := bel_then BB hb2
  clear hb2
  clear x0
  have L := hSp Av cv pv _ dv fv.at_
  clear hSp
  go_wp2_with (go_at_call 17; refine (L).mono ?_; rintro r w3 ⟨rfl, hb3⟩; refine Hid.out ?_)
  refine Lib.hid ?_
  have sw3 := hb3.size
  have ba := ba.below hb3
  have BB := bel_then BB hb3
  clear L hb3
  obtain ⟨x0, _⟩ := ba.cells
  go_wp2_with (go_at_call 18; refine (hT _ BB).mono ?_; rintro r w4 ⟨px, Ax, cx, rfl, dx, fx, hb4⟩; refine Hid.out ?_)
  refine Lib.hid ?_
  have sw4 := hb4.size
  have ba := ba.below hb4
  have BB := bel_then BB hb4
  have fx := fx.box
  clear hb4
  have bx := B1.new w4 24 (.slice Ax px.length cx)
  have bl : Below w4.heap.size w4 (w4.alloc (.cells #[.slice Ax px.length cx] 24)) := (Below.refl _ _).alloc (Nat.le_refl _) _
  have ba := ba.below bl
  have fx := fx.below bl
  have BB := bel_then BB bl
  clear bl
  clear x0
  have L := hIm Ax cx px _ dx fx.at_
  clear hIm
  obtain ⟨x0, _⟩ := bx.cells
  go_wp2_with (go_at_call 19; refine (L).mono ?_; rintro r w5 ⟨rfl, hb5⟩; refine Hid.out ?_)
  refine Lib.hid ?_
  have sw5 := hb5.size
  rw [World.size_alloc] at sw5
  have ba := ba.below hb5
  have bx := bx.below hb5
  have fx := fx.below hb5
  have BB := bel_then BB hb5
  clear L x0 hb5
  obtain ⟨x0, _⟩ := bx.cells
  obtain ⟨x1, _⟩ := ba.cells
  have hTd := hT w5.drew BB.drew
  have fd := fx.drew
  go_upto_region 10 with fail
  go_cut [26] (fun s wx => s = .bool false ∧ Below w5.heap.size w5 wx)
  case first =>
    first
      | go_region_with (first
        | (go_at_call 18; refine hTd.mono ?_; rintro r w6 ⟨pt, At, ct, rfl, dt, ft, hb6⟩; obtain ⟨y0, _⟩ := (bx.drew.below hb6).cells; have E := eq_two (ca := cx) (cb := ct) HSx dx dt (fd.below hb6).at_ ft.at_)
        | (go_at_call 13; refine E.mono ?_; rintro r w7 ⟨rfl, hb7⟩))
      | fail "region"
    all_goals go_wp2_with fail
    all_goals go_meet
    all_goals exact ⟨rfl, bel_then (bel_then (Below.refl _ _).drew hb6) hb7⟩
  case rest =>
    obtain ⟨rfl, hb7⟩ := hcut
    obtain ⟨w7, ew7, hb7⟩ : ∃ W, W = _ ∧ Below w5.heap.size w5 W := ⟨_, rfl, hb7⟩
    subst ew7
    have sw7 := hb7.size
    have ba := ba.below hb7
    have bx := bx.below hb7
    have fx := fx.below hb7
    have BB := bel_then BB hb7
    clear x0 x1 hTd fd hb7
    go_wp2_with fail
    go_ret
    exact ⟨rfl, BB⟩
end Go.Proofs.Ytndckncoipkhaaa
