/-
  FnExactRaidWrite's walk.
-/
import Derived.Test.YtndckncoipkhaaaRWz
import Derived.Test.YtndckncoipkhaaaRLo
namespace Go.Proofs.Ytndckncoipkhaaa
open Go.RowKit

theorem bulk_okW {d : Dk} (h : DkOk d) : Bulk d ∧ d.cells.length ≤ 64 ∧ d.waits.length ≤ 120 := by
  obtain ⟨h64, h120, _, hsm, hws⟩ := h
  exact ⟨⟨by omega, by omega, fun s hs => Nat.le_trans (hsm s hs) (by decide), fun x hx => Nat.le_trans (hws x hx).2.2 (by decide)⟩, by omega, h120⟩
theorem bulk_put {d D : Dk} {n : Int} {t : ByteArray} {v : Bool} (h : DkOk d) (hp : putD d n t v = some D) : Bulk D ∧ D.cells.length ≤ 64 ∧ D.waits.length ≤ 120 := by
  unfold putD at hp
  split at hp
  · injection hp with hp
    rw [← hp]
    exact bulk_okW h
  · split at hp
    · rename_i _ hT
      injection hp with hp
      rw [← hp]
      obtain ⟨b, b1, b2⟩ := bulk_okW h
      refine ⟨⟨b.cells, by simp only [List.length_append, List.length_singleton]; omega, b.texts, fun x hx => ?_⟩, b1, by simp only [List.length_append, List.length_singleton]; omega⟩
      rcases List.mem_append.1 hx with hx | hx
      · exact b.wtexts x hx
      · rw [List.mem_singleton] at hx
        rw [hx]
        exact Nat.le_trans hT.1.2.2.2 (by decide)
    · cases hp
theorem small_write {R : List Dk} {n : Int} {t : ByteArray} : Small (writeR R n t).1 := by
  by_cases h : GoodW R n t
  · rw [writeR_yes h]
    obtain ⟨hok, _, _, hput⟩ := h
    refine small_three (by simp only [putL_len]; exact hok.1) fun d hd => ?_
    obtain ⟨j, hj, rfl⟩ := List.getElem_of_mem hd
    have hj2 : j < R.length := by simpa only [putL_len] using hj
    obtain ⟨D, hD⟩ := Option.isSome_iff_exists.1 (hput j hj2)
    rw [putL_at _ _ _ _ j hj2 D hD]
    have hRj : R.getD j dk0 = R[j] := by simp [List.getD_eq_getElem?_getD, hj2]
    unfold putF at hD
    rw [hRj] at hD
    exact bulk_put (hok.2 _ (List.getElem_mem hj2)) hD
  · rw [writeR_no h]
    exact small_nil

set_option maxRecDepth 100000 in
set_option maxHeartbeats 8000000 in
theorem walk_ewrite (A : Option Addr) (c : Nat) (ps : List RD) (n : Int) (t : ByteArray) (w : World) (hA : RArg w A ps) (ht : t.size ≤ maxLen) :
    Calls Try.prog 5 #[.agg #[.slice A ps.length c], .int .i64 n, .string t] w fun r w' => r = .returned (.bool true) ∧ Below w.heap.size w w' := by
  have hts := ht
  unfold maxLen at hts
  by_cases htl : 1048576 < t.size
  · clear hA
    go_enter Try.func5, Try.ntmps5
    go_wp2_with fail
    go_ret
    exact ⟨rfl, bel_new (Below.refl _ _) _⟩
  have htl : t.size ≤ 1048576 := by omega
  have ba := B1.new w 31 (.slice A ps.length c)
  have BB := bel_new (Below.refl w.heap.size w) (.cells #[.slice A ps.length c] 31)
  have hS := fun W (hW : Below w.heap.size w W) => sz_raid A c ps 1048576 W (by omega) (by omega) hA.n hA.f (hA.at_.below hW)
  obtain ⟨_, hF, hA⟩ := hA
  go_enter Try.func5, Try.ntmps5
  go_wp2_with (go_at_call 16; refine (hS _ BB).mono ?_; rintro r w1 ⟨z, rfl, hb1, hz⟩; refine Hid.out ?_)
  refine Lib.hid ?_
  have ba := ba.below hb1
  have BB := bel_then BB hb1
  have sw1 := hb1.size
  rw [World.size_alloc] at sw1
  clear hS hb1
  obtain ⟨x0, _⟩ := ba.cells
  by_cases hzz : z < 0
  · go_wp2_with fail
    go_ret
    exact ⟨rfl, BB⟩
  have hzn : ¬ z < 0 := hzz
  have HSx := small_arg hF (hz (by omega)) (by omega)
  have hn := (HSx.of rfl).1
  have hfp := (HSx.of rfl).2
  clear hF hz
  have hT := fun W (hW : Below w.heap.size w W) => to_raid A c ps W hn hfp (hA.below hW)
  clear hA
  have HS : Small (writeR (dks ps) n t).1 := small_write
  have hSp : ∀ (A : Option Addr) (c : Nat) (qs : List RD) (W : World), Below w.heap.size w W → dks qs = dks ps → RAt W A qs → Calls Try.prog 20 #[.agg #[.slice A qs.length c], .int .i64 n, .string t] W (RPostK2 (writeR (dks ps) n t).1 (writeR (dks ps) n t).2 W) := fun A c qs W hWW hq hW => by
    have := spec_rwrite A c qs n t W (HSx.of hq).1 (HSx.of hq).2 hW ht
    rwa [hq] at this
  have hIm : ∀ (A : Option Addr) (c : Nat) (qs : List RD) (W : World), Below w.heap.size w W → dks qs = dks ps → RAt W A qs → Calls Try.prog 21 #[.agg #[.slice A qs.length c], .int .i64 n, .string t] W (RPost2 (writeR (dks ps) n t).1 (writeR (dks ps) n t).2 W) := fun A c qs W hWW hq hW => by
    have := impl_rwrite A c qs n t W (HSx.of hq).1 (HSx.of hq).2 hW ht
    rwa [hq] at this
  obtain ⟨X, hX⟩ : ∃ X, X = dks ps := ⟨_, rfl⟩
  simp only [← hX] at hT hSp hIm HSx HS
  obtain ⟨R, hR⟩ : ∃ R, R = (writeR X n t).1 := ⟨_, rfl⟩
  obtain ⟨b, hb⟩ : ∃ b, b = (writeR X n t).2 := ⟨_, rfl⟩
  simp only [← hR, ← hb] at hSp hIm HS
  have nb : (b != b) = false := by simp
  clear hR hX hb hn hfp
  have nq : ¬ (((1 + mkR R : Nat) : Int)) < 0 := by omega
  have nqx : ¬ (((1 + mkR X : Nat) : Int)) < 0 := by omega
  have nq2 : (((1 + mkR R : Nat) : Int) != ((1 + mkR R : Nat) : Int)) = false := by simp
  go_wp2_with (go_at_call 18; refine (hT _ BB).mono ?_; rintro r w2 ⟨pv, Av, cv, rfl, dv, fv, hb2⟩; refine Hid.out ?_)
  refine Lib.hid ?_
  have sw2 := hb2.size
  have ba := ba.below hb2
  have BB := bel_then BB hb2
  clear hb2
  clear x0
  have L := hSp Av cv pv _ BB dv fv.at_
  clear hSp
  go_wp2_with (go_at_call 20; refine (L).mono ?_; rintro r w3 ⟨p0, A0, c0, rfl, d0, f0, hb3⟩; refine Hid.out ?_)
  refine Lib.hid ?_
  have sw3 := hb3.size
  have ba := ba.below hb3
  have BB := bel_then BB hb3
  clear hb3
  have b0 := B1.new w3 24 (.slice A0 p0.length c0)
  have bl : Below w3.heap.size w3 (w3.alloc (.cells #[.slice A0 p0.length c0] 24)) := (Below.refl _ _).alloc (Nat.le_refl _) _
  have ba := ba.below bl
  have f0 := f0.below bl
  have BB := bel_then BB bl
  clear bl
  clear L
  obtain ⟨x0, _⟩ := ba.cells
  go_wp2_with (go_at_call 18; refine (hT _ BB).mono ?_; rintro r w4 ⟨px, Ax, cx, rfl, dx, fx, hb4⟩; refine Hid.out ?_)
  refine Lib.hid ?_
  have sw4 := hb4.size
  rw [World.size_alloc] at sw4
  have ba := ba.below hb4
  have b0 := b0.below hb4
  have f0 := f0.below hb4
  have BB := bel_then BB hb4
  try rw [World.size_alloc] at fx
  have fx := fx.box
  clear hb4
  have bx := B1.new w4 24 (.slice Ax px.length cx)
  have bl : Below w4.heap.size w4 (w4.alloc (.cells #[.slice Ax px.length cx] 24)) := (Below.refl _ _).alloc (Nat.le_refl _) _
  have ba := ba.below bl
  have b0 := b0.below bl
  have f0 := f0.below bl
  have fx := fx.below bl
  have BB := bel_then BB bl
  clear bl
  clear x0
  have L := hIm Ax cx px _ BB dx fx.at_
  obtain ⟨x0, _⟩ := bx.cells
  go_wp2_with (go_at_call 21; refine (L).mono ?_; rintro r w5 ⟨pg, Ag, cg, rfl, dg, fg, hb5⟩; refine Hid.out ?_)
  refine Lib.hid ?_
  have sw5 := hb5.size
  rw [World.size_alloc] at sw5
  have ba := ba.below hb5
  have b0 := b0.below hb5
  have bx := bx.below hb5
  have f0 := f0.below hb5
  have fx := fx.below hb5
  have BB := bel_then BB hb5
  try rw [World.size_alloc] at fg
  have fg := fg.box
  clear hb5
  have bg := B1.new w5 24 (.slice Ag pg.length cg)
  have bl : Below w5.heap.size w5 (w5.alloc (.cells #[.slice Ag pg.length cg] 24)) := (Below.refl _ _).alloc (Nat.le_refl _) _
  have ba := ba.below bl
  have b0 := b0.below bl
  have bx := bx.below bl
  have f0 := f0.below bl
  have fx := fx.below bl
  have fg := fg.below bl
  have BB := bel_then BB bl
  clear bl
  clear L x0
  have E := fun W (hW : Below w.heap.size w W) (h1 : RAt W Ag pg) (h2 : RAt W A0 p0) => eq_two (ca := cg) (cb := c0) HS dg d0 h1 h2
  have E := E _ BB fg.at_ f0.at_
  obtain ⟨x0, _⟩ := bg.cells
  obtain ⟨x1, _⟩ := b0.cells
  go_wp2_with (go_at_call 13; refine (E).mono ?_; rintro r w6 ⟨rfl, hb6⟩; refine Hid.out ?_)
  refine Lib.hid ?_
  have sw6 := hb6.size
  rw [World.size_alloc] at sw6
  have ba := ba.below hb6
  have b0 := b0.below hb6
  have bx := bx.below hb6
  have bg := bg.below hb6
  have f0 := f0.below hb6
  have fx := fx.below hb6
  have fg := fg.below hb6
  have BB := bel_then BB hb6
  clear E x0 x1 hb6
  obtain ⟨x0, _⟩ := bx.cells
  obtain ⟨x1, _⟩ := ba.cells
  have hTd := hT w6.drew BB.drew
  have fd := fx.drew
  go_upto_region 12 with fail
  go_cut [56] (fun s wx => s = .bool false ∧ Below w6.heap.size w6 wx)
  case first =>
    first
      | go_region_with (first
        | (go_at_call 18; refine hTd.mono ?_; rintro r w7 ⟨pt, At, ct, rfl, dt, ft, hb7⟩; obtain ⟨y0, _⟩ := (bx.drew.below hb7).cells; have E := eq_two (ca := cx) (cb := ct) HSx dx dt (fd.below hb7).at_ ft.at_)
        | (go_at_call 13; refine E.mono ?_; rintro r w8 ⟨rfl, hb8⟩))
      | fail "region"
    all_goals go_wp2_with fail
    all_goals go_meet
    all_goals exact ⟨rfl, bel_then (bel_then (Below.refl _ _).drew hb7) hb8⟩
  case rest =>
    obtain ⟨rfl, hb8⟩ := hcut
    obtain ⟨w8, ew8, hb8⟩ : ∃ W, W = _ ∧ Below w6.heap.size w6 W := ⟨_, rfl, hb8⟩
    subst ew8
    have sw8 := hb8.size
    have ba := ba.below hb8
    have b0 := b0.below hb8
    have bx := bx.below hb8
    have bg := bg.below hb8
    have f0 := f0.below hb8
    have fx := fx.below hb8
    have fg := fg.below hb8
    have BB := bel_then BB hb8
    clear x0 x1 hTd fd hb8
    have M := mark_two HSx dx (by omega) fx
    clear fx
    obtain ⟨x0, _⟩ := bx.cells
    go_wp2_with (go_at_call 14; refine (M).mono ?_; rintro r w9 ⟨rfl, fx, on⟩; refine Hid.out ?_)
    refine Lib.hid ?_
    have sw9 := on.size
    have BB := BB.trans (on.below (B := w.heap.size) (by omega) (by omega))
    have ba := ba.only on (by omega)
    have b0 := b0.only on (by omega)
    have bx := bx.only on (by omega)
    have bg := bg.only on (by omega)
    have f0 := f0.only on (by omega)
    have fg := fg.only on (by omega)
    clear M on x0
    have E := fun W (hW : Below w.heap.size w W) (h1 : RAt W Ag pg) (h2 : RAt W A0 p0) => eq_two (ca := cg) (cb := c0) HS dg d0 h1 h2
    have E := E _ BB fg.at_ f0.at_
    obtain ⟨x0, _⟩ := bg.cells
    obtain ⟨x1, _⟩ := b0.cells
    go_wp2_with (go_at_call 13; refine (E).mono ?_; rintro r w10 ⟨rfl, hb10⟩; refine Hid.out ?_)
    refine Lib.hid ?_
    have sw10 := hb10.size
    have ba := ba.below hb10
    have b0 := b0.below hb10
    have bx := bx.below hb10
    have bg := bg.below hb10
    have f0 := f0.below hb10
    have fg := fg.below hb10
    have fx := fx.below hb10
    have BB := bel_then BB hb10
    clear E x0 x1 hb10
    have M := mark_two HS dg (by omega) fg
    clear fg
    obtain ⟨x0, _⟩ := bg.cells
    go_wp2_with (go_at_call 14; refine (M).mono ?_; rintro r w11 ⟨rfl, fg, on⟩; refine Hid.out ?_)
    refine Lib.hid ?_
    have sw11 := on.size
    have BB := BB.trans (on.below (B := w.heap.size) (by omega) (by omega))
    have ba := ba.only on (by omega)
    have b0 := b0.only on (by omega)
    have bx := bx.only on (by omega)
    have bg := bg.only on (by omega)
    have f0 := f0.only on (by omega)
    have fx := fx.only on (by omega)
    clear M on x0
    have H := held_two HS dg fg
    obtain ⟨x0, _⟩ := bg.cells
    go_wp2_with (go_at_call 15; refine (H).mono ?_; rintro r w12 ⟨rfl, hb12⟩; refine Hid.out ?_)
    refine Lib.hid ?_
    have sw12 := hb12.size
    have ba := ba.below hb12
    have b0 := b0.below hb12
    have bx := bx.below hb12
    have bg := bg.below hb12
    have f0 := f0.below hb12
    have fx := fx.below hb12
    have fg := fg.below hb12
    have BB := bel_then BB hb12
    clear H x0 hb12
    obtain ⟨x0, _⟩ := ba.cells
    go_wp2_with (go_at_call 18; refine (hT _ BB).mono ?_; rintro r w13 ⟨pu, Au, cu, rfl, du, fu, hb13⟩; refine Hid.out ?_)
    refine Lib.hid ?_
    have sw13 := hb13.size
    have ba := ba.below hb13
    have b0 := b0.below hb13
    have bx := bx.below hb13
    have bg := bg.below hb13
    have f0 := f0.below hb13
    have fx := fx.below hb13
    have fg := fg.below hb13
    have BB := bel_then BB hb13
    clear hb13
    clear x0 hT
    have L := hIm Au cu pu _ BB du fu.at_
    clear hIm
    go_wp2_with (go_at_call 21; refine (L).mono ?_; rintro r w14 ⟨ph, Ah, ch, rfl, dh, fh, hb14⟩; refine Hid.out ?_)
    refine Lib.hid ?_
    have sw14 := hb14.size
    have ba := ba.below hb14
    have b0 := b0.below hb14
    have bx := bx.below hb14
    have bg := bg.below hb14
    have f0 := f0.below hb14
    have fx := fx.below hb14
    have fg := fg.below hb14
    have BB := bel_then BB hb14
    have fh := fh.box
    clear hb14
    have bh := B1.new w14 24 (.slice Ah ph.length ch)
    have bl : Below w14.heap.size w14 (w14.alloc (.cells #[.slice Ah ph.length ch] 24)) := (Below.refl _ _).alloc (Nat.le_refl _) _
    have ba := ba.below bl
    have b0 := b0.below bl
    have bx := bx.below bl
    have bg := bg.below bl
    have f0 := f0.below bl
    have fx := fx.below bl
    have fg := fg.below bl
    have fh := fh.below bl
    have BB := bel_then BB bl
    clear bl
    clear L
    have E := fun W (hW : Below w.heap.size w W) (h1 : RAt W Ah ph) (h2 : RAt W A0 p0) => eq_two (ca := ch) (cb := c0) HS dh d0 h1 h2
    have E := E _ BB fh.at_ f0.at_
    obtain ⟨x0, _⟩ := bh.cells
    obtain ⟨x1, _⟩ := b0.cells
    go_wp2_with (go_at_call 13; refine (E).mono ?_; rintro r w15 ⟨rfl, hb15⟩; refine Hid.out ?_)
    refine Lib.hid ?_
    have sw15 := hb15.size
    rw [World.size_alloc] at sw15
    have ba := ba.below hb15
    have b0 := b0.below hb15
    have bx := bx.below hb15
    have bg := bg.below hb15
    have bh := bh.below hb15
    have f0 := f0.below hb15
    have fx := fx.below hb15
    have fg := fg.below hb15
    have fh := fh.below hb15
    have BB := bel_then BB hb15
    clear E x0 x1 hb15
    have H := held_two HS dg fg
    obtain ⟨x0, _⟩ := bg.cells
    go_wp2_with (go_at_call 15; refine H.mono ?_; rintro r w16 ⟨rfl, hb16⟩)
    go_ret
    exact ⟨rfl, bel_then BB hb16⟩
end Go.Proofs.Ytndckncoipkhaaa
