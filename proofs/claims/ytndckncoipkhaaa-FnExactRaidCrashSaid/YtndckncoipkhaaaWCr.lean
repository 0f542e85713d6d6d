/-
  FnExactRaidCrash's walk.
-/
import Derived.Test.YtndckncoipkhaaaRIk
namespace Go.Proofs.Ytndckncoipkhaaa
open Go.RowKit

set_option maxRecDepth 100000 in
set_option maxHeartbeats 8000000 in
theorem walk_ecrash (A : Option Addr) (c : Nat) (ps : List RD) (M : Option Addr) (c1 : Nat) (ms : List Int) (T : Option Addr) (c2 : Nat) (ts : List Int) (w : World) (hA : RArg w A ps) (kM : ms.length ≤ maxLen ∧ (∀ n ∈ ms, n ≤ 9223372036854775807) ∧ Lies w M (intCells ms)) (kT : ts.length ≤ maxLen ∧ (∀ n ∈ ts, n ≤ 9223372036854775807) ∧ Lies w T (intCells ts)) :
    Calls Try.prog 9 #[.agg #[.slice A ps.length c], .slice M ms.length c1, .slice T ts.length c2] w fun r w' => r = .returned (.bool true) ∧ Below w.heap.size w w' := by
  obtain ⟨kM1, hmb, hM⟩ := kM
  obtain ⟨kT1, _, hT⟩ := kT
  unfold maxLen at kM1 kT1
  by_cases hml : 1048576 < ms.length
  · have bb := Below.refl w.heap.size w
    clear hmb hM hT hA
    go_enter Try.func9, Try.ntmps9
    go_wp2_with fail
    go_ret
    exact ⟨rfl, bel_new (Below.refl _ _) _⟩
  have hml : ms.length ≤ 1048576 := by omega
  by_cases htl : 1048576 < ts.length
  · clear hmb hM hT hA
    go_enter Try.func9, Try.ntmps9
    go_wp2_with fail
    go_ret
    exact ⟨rfl, bel_new (Below.refl _ _) _⟩
  have htl : ts.length ≤ 1048576 := by omega
  clear kM1 kT1
  have ba := B1.new w 31 (.slice A ps.length c)
  have BB := bel_new (Below.refl w.heap.size w) (.cells #[.slice A ps.length c] 31)
  have hS := fun W (hW : Below w.heap.size w W) => sz_raid A c ps 1048576 W (by omega) (by omega) hA.n hA.f (hA.at_.below hW)
  obtain ⟨_, hF, hA⟩ := hA
  go_enter Try.func9, Try.ntmps9
  go_wp2_with (go_at_call 16; refine (hS _ BB).mono ?_; rintro r w1 ⟨z, rfl, hb1, hz⟩; refine Hid.out ?_)
  refine Lib.hid ?_
  have ba := ba.below hb1
  have BB := bel_then BB hb1
  have sw1 := hb1.size
  rw [World.size_alloc] at sw1
  clear hS hb1
  obtain ⟨x0, _⟩ := ba.cells
  by_cases hzz : z < 0
  · go_wp2_with fail
    go_ret
    exact ⟨rfl, BB⟩
  have hzn : ¬ z < 0 := hzz
  have HSx := small_arg hF (hz (by omega)) (by omega)
  have hn := (HSx.of rfl).1
  have hfp := (HSx.of rfl).2
  clear hF hz
  have hT0 := fun W (hW : Below w.heap.size w W) => to_raid A c ps W hn hfp (hA.below hW)
  clear hA
  have HS : Small (crashR (dks ps) ms ts) := small_crash
  have hSp : ∀ (A : Option Addr) (c : Nat) (qs : List RD) (M : Option Addr) (mc : Nat) (T : Option Addr) (tc : Nat) (W : World), dks qs = dks ps → RAt W A qs → Lies W M (intCells ms) → Lies W T (intCells ts) → Calls Try.prog 29 #[.agg #[.slice A qs.length c], .slice M ms.length mc, .slice T ts.length tc] W (RPostK (crashR (dks ps) ms ts) W) := fun A c qs M mc T tc W hq hW h1 h2 => by
    have := spec_rcrash A c qs M mc ms T tc ts W (HSx.of hq).1 (HSx.of hq).2 hW hml htl h1 h2 hmb
    rwa [hq] at this
  have hIm : ∀ (A : Option Addr) (c : Nat) (qs : List RD) (M : Option Addr) (mc : Nat) (T : Option Addr) (tc : Nat) (W : World), dks qs = dks ps → RAt W A qs → Lies W M (intCells ms) → Lies W T (intCells ts) → Calls Try.prog 31 #[.agg #[.slice A qs.length c], .slice M ms.length mc, .slice T ts.length tc] W (RPost (crashR (dks ps) ms ts) W) := fun A c qs M mc T tc W hq hW h1 h2 => by
    have := impl_rcrash A c qs M mc ms T tc ts W (HSx.of hq).1 (HSx.of hq).2 hW hml htl h1 h2 hmb
    rwa [hq] at this
  obtain ⟨X, hX⟩ : ∃ X, X = dks ps := ⟨_, rfl⟩
  simp only [← hX] at hT0 hSp hIm HSx HS
  obtain ⟨R, hR⟩ : ∃ R, R = crashR X ms ts := ⟨_, rfl⟩
  simp only [← hR] at hSp hIm HS
  clear hR hX hn hfp hmb
  have nq : ¬ (((1 + mkR R : Nat) : Int)) < 0 := by omega
  have nqx : ¬ (((1 + mkR X : Nat) : Int) + (ms.length : Int) + (ts.length : Int)) < 0 := by omega
  have nq2 : (((1 + mkR R : Nat) : Int) != ((1 + mkR R : Nat) : Int)) = false := by simp
  go_wp2_with (go_at_call 18; refine (hT0 _ BB).mono ?_; rintro r w2 ⟨pv, Av, cv, rfl, dv, fv, hb2⟩; refine Hid.out ?_)
  refine Lib.hid ?_
  have sw2 := hb2.size
  have ba := ba.below hb2
  have BB := bel_then BB hb2
  clear hb2
  clear x0
  go_wp2_with (go_at_call 30; refine (toi (mc := c1) hml (hM.below BB)).mono ?_; rintro r w3 ⟨g1, rfl, i1, hb3⟩; refine Hid.out ?_)
  refine Lib.hid ?_
  have sw3 := hb3.size
  have ba := ba.below hb3
  have fv := fv.below hb3
  have BB := bel_then BB hb3
  clear hb3
  go_wp2_with (go_at_call 30; refine (toi (mc := c2) htl (hT.below BB)).mono ?_; rintro r w4 ⟨g2, rfl, i2, hb4⟩; refine Hid.out ?_)
  refine Lib.hid ?_
  have sw4 := hb4.size
  have ba := ba.below hb4
  have fv := fv.below hb4
  have i1 := i1.below hb4
  have BB := bel_then BB hb4
  clear hb4
  have L := hSp Av cv pv _ ms.length _ ts.length _ dv fv.at_ i1.lies i2.lies
  clear hSp i1 i2 fv
  go_wp2_with (go_at_call 29; refine (L).mono ?_; rintro r w5 ⟨p0, A0, c0, rfl, d0, f0, hb5⟩; refine Hid.out ?_)
  refine Lib.hid ?_
  have sw5 := hb5.size
  have ba := ba.below hb5
  have BB := bel_then BB hb5
  clear hb5
  have b0 := B1.new w5 24 (.slice A0 p0.length c0)
  have bl : Below w5.heap.size w5 (w5.alloc (.cells #[.slice A0 p0.length c0] 24)) := (Below.refl _ _).alloc (Nat.le_refl _) _
  have ba := ba.below bl
  have f0 := f0.below bl
  have BB := bel_then BB bl
  clear bl
  clear L
  obtain ⟨x0, _⟩ := ba.cells
  go_wp2_with (go_at_call 18; refine (hT0 _ BB).mono ?_; rintro r w6 ⟨px, Ax, cx, rfl, dx, fx, hb6⟩; refine Hid.out ?_)
  refine Lib.hid ?_
  have sw6 := hb6.size
  rw [World.size_alloc] at sw6
  have ba := ba.below hb6
  have b0 := b0.below hb6
  have f0 := f0.below hb6
  have BB := bel_then BB hb6
  try rw [World.size_alloc] at fx
  have fx := fx.box
  clear hb6
  have bx := B1.new w6 24 (.slice Ax px.length cx)
  have bl : Below w6.heap.size w6 (w6.alloc (.cells #[.slice Ax px.length cx] 24)) := (Below.refl _ _).alloc (Nat.le_refl _) _
  have ba := ba.below bl
  have b0 := b0.below bl
  have f0 := f0.below bl
  have fx := fx.below bl
  have BB := bel_then BB bl
  clear bl
  clear x0
  go_wp2_with (go_at_call 30; refine (toi (mc := c1) hml (hM.below BB)).mono ?_; rintro r w7 ⟨g3, rfl, i3, hb7⟩; refine Hid.out ?_)
  refine Lib.hid ?_
  have sw7 := hb7.size
  rw [World.size_alloc] at sw7
  have ba := ba.below hb7
  have b0 := b0.below hb7
  have bx := bx.below hb7
  have f0 := f0.below hb7
  have fx := fx.below hb7
  have BB := bel_then BB hb7
  try rw [World.size_alloc] at i3
  clear hb7
  go_wp2_with (go_at_call 30; refine (toi (mc := c2) htl (hT.below BB)).mono ?_; rintro r w8 ⟨g4, rfl, i4, hb8⟩; refine Hid.out ?_)
  refine Lib.hid ?_
  have sw8 := hb8.size
  have ba := ba.below hb8
  have b0 := b0.below hb8
  have bx := bx.below hb8
  have f0 := f0.below hb8
  have fx := fx.below hb8
  have i3 := i3.below hb8
  have BB := bel_then BB hb8
  clear hb8
  have L := hIm Ax cx px _ ms.length _ ts.length _ dx fx.at_ i3.lies i4.lies
  obtain ⟨x0, _⟩ := bx.cells
  go_wp2_with (go_at_call 31; refine (L).mono ?_; rintro r w9 ⟨pg, Ag, cg, rfl, dg, fg, hb9⟩; refine Hid.out ?_)
  refine Lib.hid ?_
  have sw9 := hb9.size
  have ba := ba.below hb9
  have b0 := b0.below hb9
  have bx := bx.below hb9
  have f0 := f0.below hb9
  have fx := fx.below hb9
  have i3 := i3.below hb9
  have i4 := i4.below hb9
  have BB := bel_then BB hb9
  have fg := fg.box
  clear hb9
  have bg := B1.new w9 24 (.slice Ag pg.length cg)
  have bl : Below w9.heap.size w9 (w9.alloc (.cells #[.slice Ag pg.length cg] 24)) := (Below.refl _ _).alloc (Nat.le_refl _) _
  have ba := ba.below bl
  have b0 := b0.below bl
  have bx := bx.below bl
  have f0 := f0.below bl
  have fx := fx.below bl
  have i3 := i3.below bl
  have i4 := i4.below bl
  have fg := fg.below bl
  have BB := bel_then BB bl
  clear bl
  clear L x0
  have E := fun W (hW : Below w.heap.size w W) (h1 : RAt W Ag pg) (h2 : RAt W A0 p0) => eq_two (ca := cg) (cb := c0) HS dg d0 h1 h2
  have E := E _ BB fg.at_ f0.at_
  obtain ⟨x0, _⟩ := bg.cells
  obtain ⟨x1, _⟩ := b0.cells
  go_wp2_with (go_at_call 13; refine (E).mono ?_; rintro r w10 ⟨rfl, hb10⟩; refine Hid.out ?_)
  refine Lib.hid ?_
  have sw10 := hb10.size
  rw [World.size_alloc] at sw10
  have ba := ba.below hb10
  have b0 := b0.below hb10
  have bx := bx.below hb10
  have bg := bg.below hb10
  have f0 := f0.below hb10
  have fx := fx.below hb10
  have i3 := i3.below hb10
  have i4 := i4.below hb10
  have fg := fg.below hb10
  have BB := bel_then BB hb10
  clear E x0 x1 hb10
  obtain ⟨x0, _⟩ := bx.cells
  obtain ⟨x1, _⟩ := ba.cells
  have hTd := hT0 w10.drew BB.drew
  have fd := fx.drew
  go_upto_region 16 with fail
  go_cut [53] (fun s wx => s = .bool false ∧ Below w10.heap.size w10 wx)
  case first =>
    first
      | go_region_with (first
        | (go_at_call 18; refine hTd.mono ?_; rintro r w11 ⟨pt, At, ct, rfl, dt, ft, hb11⟩; obtain ⟨y0, _⟩ := (bx.drew.below hb11).cells; have E := eq_two (ca := cx) (cb := ct) HSx dx dt (fd.below hb11).at_ ft.at_)
        | (go_at_call 13; refine E.mono ?_; rintro r w12 ⟨rfl, hb12⟩))
      | fail "region"
    all_goals go_wp2_with fail
    all_goals go_meet
    all_goals exact ⟨rfl, bel_then (bel_then (Below.refl _ _).drew hb11) hb12⟩
  case rest =>
    obtain ⟨rfl, hb12⟩ := hcut
    obtain ⟨w12, ew12, hb12⟩ : ∃ W, W = _ ∧ Below w10.heap.size w10 W := ⟨_, rfl, hb12⟩
    subst ew12
    have sw12 := hb12.size
    have ba := ba.below hb12
    have b0 := b0.below hb12
    have bx := bx.below hb12
    have bg := bg.below hb12
    have f0 := f0.below hb12
    have fx := fx.below hb12
    have i3 := i3.below hb12
    have i4 := i4.below hb12
    have fg := fg.below hb12
    have BB := bel_then BB hb12
    clear x0 x1 hTd fd hb12
    go_wp2_with (go_at_call 30; refine (toi (mc := c1) hml (hM.below BB)).mono ?_; rintro r w13 ⟨gq3, rfl, iq3, hb13⟩; refine Hid.out ?_)
    refine Lib.hid ?_
    have sw13 := hb13.size
    have ba := ba.below hb13
    have b0 := b0.below hb13
    have bx := bx.below hb13
    have bg := bg.below hb13
    have f0 := f0.below hb13
    have fx := fx.below hb13
    have i3 := i3.below hb13
    have i4 := i4.below hb13
    have fg := fg.below hb13
    have BB := bel_then BB hb13
    clear hb13
    have E := eqi hml i3 iq3
    go_wp2_with (go_at_call 32; refine (E).mono ?_; rintro r w14 ⟨rfl, hb14⟩; refine Hid.out ?_)
    refine Lib.hid ?_
    have sw14 := hb14.size
    have ba := ba.below hb14
    have b0 := b0.below hb14
    have bx := bx.below hb14
    have bg := bg.below hb14
    have f0 := f0.below hb14
    have fx := fx.below hb14
    have i3 := i3.below hb14
    have i4 := i4.below hb14
    have fg := fg.below hb14
    have BB := bel_then BB hb14
    clear E iq3 hb14
    go_wp2_with (go_at_call 30; refine (toi (mc := c2) htl (hT.below BB)).mono ?_; rintro r w15 ⟨gq4, rfl, iq4, hb15⟩; refine Hid.out ?_)
    refine Lib.hid ?_
    have sw15 := hb15.size
    have ba := ba.below hb15
    have b0 := b0.below hb15
    have bx := bx.below hb15
    have bg := bg.below hb15
    have f0 := f0.below hb15
    have fx := fx.below hb15
    have i3 := i3.below hb15
    have i4 := i4.below hb15
    have fg := fg.below hb15
    have BB := bel_then BB hb15
    clear hb15
    have E := eqi htl i4 iq4
    go_wp2_with (go_at_call 32; refine (E).mono ?_; rintro r w16 ⟨rfl, hb16⟩; refine Hid.out ?_)
    refine Lib.hid ?_
    have sw16 := hb16.size
    have ba := ba.below hb16
    have b0 := b0.below hb16
    have bx := bx.below hb16
    have bg := bg.below hb16
    have f0 := f0.below hb16
    have fx := fx.below hb16
    have i3 := i3.below hb16
    have i4 := i4.below hb16
    have fg := fg.below hb16
    have BB := bel_then BB hb16
    clear E iq4 hb16
    have M := mark_two HSx dx (by omega) fx
    clear fx
    obtain ⟨x0, _⟩ := bx.cells
    go_wp2_with (go_at_call 14; refine (M).mono ?_; rintro r w17 ⟨rfl, fx, on⟩; refine Hid.out ?_)
    refine Lib.hid ?_
    have sw17 := on.size
    have BB := BB.trans (on.below (B := w.heap.size) (by omega) (by omega))
    have ba := ba.only on (by omega)
    have b0 := b0.only on (by omega)
    have bx := bx.only on (by omega)
    have bg := bg.only on (by omega)
    have f0 := f0.only on (by omega)
    have i3 := i3.only on (by omega)
    have i4 := i4.only on (by omega)
    have fg := fg.only on (by omega)
    clear M on x0
    have M := marki (a := ((1 + mkR X : Nat) : Int)) (by omega) (by have := HSx.marks; omega) i3
    clear i3
    go_wp2_with (go_at_call 33; refine (M).mono ?_; rintro r w18 ⟨rfl, on⟩; refine Hid.out ?_)
    refine Lib.hid ?_
    have sw18 := on.size
    have BB := BB.trans (on.below (B := w.heap.size) (by omega) (by omega))
    have ba := ba.only on (by omega)
    have b0 := b0.only on (by omega)
    have bx := bx.only on (by omega)
    have bg := bg.only on (by omega)
    have f0 := f0.only on (by omega)
    have i4 := i4.only on (by omega)
    have fg := fg.only on (by omega)
    have fx := fx.only on (by omega)
    clear M on
    have M := marki (a := ((1 + mkR X : Nat) : Int) + (ms.length : Int)) (by omega) (by have := HSx.marks; omega) i4
    clear i4
    go_wp2_with (go_at_call 33; refine (M).mono ?_; rintro r w19 ⟨rfl, on⟩; refine Hid.out ?_)
    refine Lib.hid ?_
    have sw19 := on.size
    have BB := BB.trans (on.below (B := w.heap.size) (by omega) (by omega))
    have ba := ba.only on (by omega)
    have b0 := b0.only on (by omega)
    have bx := bx.only on (by omega)
    have bg := bg.only on (by omega)
    have f0 := f0.only on (by omega)
    have fg := fg.only on (by omega)
    have fx := fx.only on (by omega)
    clear M on
    have E := fun W (hW : Below w.heap.size w W) (h1 : RAt W Ag pg) (h2 : RAt W A0 p0) => eq_two (ca := cg) (cb := c0) HS dg d0 h1 h2
    have E := E _ BB fg.at_ f0.at_
    obtain ⟨x0, _⟩ := bg.cells
    obtain ⟨x1, _⟩ := b0.cells
    go_wp2_with (go_at_call 13; refine (E).mono ?_; rintro r w20 ⟨rfl, hb20⟩; refine Hid.out ?_)
    refine Lib.hid ?_
    have sw20 := hb20.size
    have ba := ba.below hb20
    have b0 := b0.below hb20
    have bx := bx.below hb20
    have bg := bg.below hb20
    have f0 := f0.below hb20
    have fg := fg.below hb20
    have fx := fx.below hb20
    have BB := bel_then BB hb20
    clear E x0 x1 hb20
    have M := mark_two HS dg (by omega) fg
    clear fg
    obtain ⟨x0, _⟩ := bg.cells
    go_wp2_with (go_at_call 14; refine (M).mono ?_; rintro r w21 ⟨rfl, fg, on⟩; refine Hid.out ?_)
    refine Lib.hid ?_
    have sw21 := on.size
    have BB := BB.trans (on.below (B := w.heap.size) (by omega) (by omega))
    have ba := ba.only on (by omega)
    have b0 := b0.only on (by omega)
    have bx := bx.only on (by omega)
    have bg := bg.only on (by omega)
    have f0 := f0.only on (by omega)
    have fx := fx.only on (by omega)
    clear M on x0
    have H := held_two HS dg fg
    obtain ⟨x0, _⟩ := bg.cells
    go_wp2_with (go_at_call 15; refine (H).mono ?_; rintro r w22 ⟨rfl, hb22⟩; refine Hid.out ?_)
    refine Lib.hid ?_
    have sw22 := hb22.size
    have ba := ba.below hb22
    have b0 := b0.below hb22
    have bx := bx.below hb22
    have bg := bg.below hb22
    have f0 := f0.below hb22
    have fx := fx.below hb22
    have fg := fg.below hb22
    have BB := bel_then BB hb22
    clear H x0 hb22
    obtain ⟨x0, _⟩ := ba.cells
    go_wp2_with (go_at_call 18; refine (hT0 _ BB).mono ?_; rintro r w23 ⟨pu, Au, cu, rfl, du, fu, hb23⟩; refine Hid.out ?_)
    refine Lib.hid ?_
    have sw23 := hb23.size
    have ba := ba.below hb23
    have b0 := b0.below hb23
    have bx := bx.below hb23
    have bg := bg.below hb23
    have f0 := f0.below hb23
    have fx := fx.below hb23
    have fg := fg.below hb23
    have BB := bel_then BB hb23
    clear hb23
    clear x0 hT0
    go_wp2_with (go_at_call 30; refine (toi (mc := c1) hml (hM.below BB)).mono ?_; rintro r w24 ⟨g5, rfl, i5, hb24⟩; refine Hid.out ?_)
    refine Lib.hid ?_
    have sw24 := hb24.size
    have ba := ba.below hb24
    have b0 := b0.below hb24
    have bx := bx.below hb24
    have bg := bg.below hb24
    have f0 := f0.below hb24
    have fx := fx.below hb24
    have fg := fg.below hb24
    have fu := fu.below hb24
    have BB := bel_then BB hb24
    clear hb24
    go_wp2_with (go_at_call 30; refine (toi (mc := c2) htl (hT.below BB)).mono ?_; rintro r w25 ⟨g6, rfl, i6, hb25⟩; refine Hid.out ?_)
    refine Lib.hid ?_
    have sw25 := hb25.size
    have ba := ba.below hb25
    have b0 := b0.below hb25
    have bx := bx.below hb25
    have bg := bg.below hb25
    have f0 := f0.below hb25
    have fx := fx.below hb25
    have fg := fg.below hb25
    have fu := fu.below hb25
    have i5 := i5.below hb25
    have BB := bel_then BB hb25
    clear hb25
    have L := hIm Au cu pu _ ms.length _ ts.length _ du fu.at_ i5.lies i6.lies
    clear hIm fu i5 i6
    go_wp2_with (go_at_call 31; refine (L).mono ?_; rintro r w26 ⟨ph, Ah, ch, rfl, dh, fh, hb26⟩; refine Hid.out ?_)
    refine Lib.hid ?_
    have sw26 := hb26.size
    have ba := ba.below hb26
    have b0 := b0.below hb26
    have bx := bx.below hb26
    have bg := bg.below hb26
    have f0 := f0.below hb26
    have fx := fx.below hb26
    have fg := fg.below hb26
    have BB := bel_then BB hb26
    have fh := fh.box
    clear hb26
    have bh := B1.new w26 24 (.slice Ah ph.length ch)
    have bl : Below w26.heap.size w26 (w26.alloc (.cells #[.slice Ah ph.length ch] 24)) := (Below.refl _ _).alloc (Nat.le_refl _) _
    have ba := ba.below bl
    have b0 := b0.below bl
    have bx := bx.below bl
    have bg := bg.below bl
    have f0 := f0.below bl
    have fx := fx.below bl
    have fg := fg.below bl
    have fh := fh.below bl
    have BB := bel_then BB bl
    clear bl
    clear L
    have E := fun W (hW : Below w.heap.size w W) (h1 : RAt W Ah ph) (h2 : RAt W A0 p0) => eq_two (ca := ch) (cb := c0) HS dh d0 h1 h2
    have E := E _ BB fh.at_ f0.at_
    obtain ⟨x0, _⟩ := bh.cells
    obtain ⟨x1, _⟩ := b0.cells
    go_wp2_with (go_at_call 13; refine (E).mono ?_; rintro r w27 ⟨rfl, hb27⟩; refine Hid.out ?_)
    refine Lib.hid ?_
    have sw27 := hb27.size
    rw [World.size_alloc] at sw27
    have ba := ba.below hb27
    have b0 := b0.below hb27
    have bx := bx.below hb27
    have bg := bg.below hb27
    have bh := bh.below hb27
    have f0 := f0.below hb27
    have fx := fx.below hb27
    have fg := fg.below hb27
    have fh := fh.below hb27
    have BB := bel_then BB hb27
    clear E x0 x1 hb27
    have H := held_two HS dg fg
    obtain ⟨x0, _⟩ := bg.cells
    go_wp2_with (go_at_call 15; refine H.mono ?_; rintro r w28 ⟨rfl, hb28⟩)
    go_ret
    exact ⟨rfl, bel_then BB hb28⟩
end Go.Proofs.Ytndckncoipkhaaa
