/-
  FnExactRaidRead's walk.
-/
import Derived.Test.YtndckncoipkhaaaRRj
import Derived.Test.YtndckncoipkhaaaRW
import Derived.Test.YtndckncoipkhaaaRFs
namespace Go.Proofs.Ytndckncoipkhaaa
open Go.RowKit

set_option maxRecDepth 100000 in
set_option maxHeartbeats 8000000 in
theorem walk_eread (A : Option Addr) (c : Nat) (ps : List RD) (a b k d e : Int) (w : World) (hA : RArg w A ps) :
    Calls Try.prog 6 #[.agg #[.slice A ps.length c], .agg #[.int .i64 a, .int .i64 b, .int .i64 k, .int .i64 d, .int .i64 e]] w fun r w' => r = .returned (.bool true) ∧ Below w.heap.size w w' := by
  have ba := (B1.new w 31 (.slice A ps.length c)).alloc (.cells #[.int .i64 a, .int .i64 b, .int .i64 k, .int .i64 d, .int .i64 e] 40)
  have BB := bel_new (bel_new (Below.refl w.heap.size w) (.cells #[.slice A ps.length c] 31)) (.cells #[.int .i64 a, .int .i64 b, .int .i64 k, .int .i64 d, .int .i64 e] 40)
  have hP0 := Cut.HP.new (w.alloc (.cells #[.slice A ps.length c] 31)) a b k d e 40
  have hp : Hp5 (w.heap.size + 1) a b k d e ((w.alloc (.cells #[.slice A ps.length c] 31)).alloc (.cells #[.int .i64 a, .int .i64 b, .int .i64 k, .int .i64 d, .int .i64 e] 40)) := by
    unfold Cut.HP at hP0
    rw [World.size_alloc] at hP0
    exact ⟨hP0.1, hP0.2.1, hP0.2.2.1, hP0.2.2.2.1, hP0.2.2.2.2.1, hP0.2.2.2.2.2.1, trivial⟩
  clear hP0
  have hS := fun W (hW : Below w.heap.size w W) => sz_raid A c ps 1048576 W (by omega) (by omega) hA.n hA.f (hA.at_.below hW)
  have hTp : ∀ W, Calls Try.prog 23 #[.agg #[.int .i64 a, .int .i64 b, .int .i64 k, .int .i64 d, .int .i64 e]] W fun r w' => r = .returned (.agg #[.int .i64 a, .int .i64 b, .int .i64 k, .int .i64 d, .int .i64 e]) ∧ Below W.heap.size W w' := fun W => (Cut.to_ptr a b k d e W).mono fun r w' ⟨h1, h2⟩ => ⟨h1, by subst h2; exact bel_new (bel_new (bel_new (Below.refl _ _) _) _) _⟩
  obtain ⟨_, hF, hA⟩ := hA
  go_enter Try.func6, Try.ntmps6
  go_wp2_with (go_at_call 16; refine (hS _ BB).mono ?_; rintro r w1 ⟨z, rfl, hb1, hz⟩; refine Hid.out ?_)
  refine Lib.hid ?_
  have ba := ba.below hb1
  have hp := hp.next hb1
  have BB := bel_then BB hb1
  clear hS hb1
  obtain ⟨x0, _⟩ := ba.cells
  by_cases hzz : z < 0
  · go_wp2_with fail
    go_ret
    exact ⟨rfl, BB⟩
  have hzn : ¬ z < 0 := hzz
  have HSx := small_arg hF (hz (by omega)) (by omega)
  have hn := (HSx.of rfl).1
  have hfp := (HSx.of rfl).2
  clear hF hz
  have hT := fun W (hW : Below w.heap.size w W) => to_raid A c ps W hn hfp (hA.below hW)
  clear hA
  have hSp : ∀ (A : Option Addr) (c : Nat) (qs : List RD) (W : World), dks qs = dks ps → RAt W A qs → Calls Try.prog 22 #[.agg #[.slice A qs.length c], .agg #[.int .i64 a, .int .i64 b, .int .i64 k, .int .i64 d, .int .i64 e]] W (ReadPost (readR (dks ps) a b k d e) W) := fun A c qs W hq hW => by
    have := spec_rread A c qs a b k d e W (HSx.of hq).1 (HSx.of hq).2 hW
    rwa [hq] at this
  have hIm : ∀ (A : Option Addr) (c : Nat) (qs : List RD) (W : World), dks qs = dks ps → RAt W A qs → Calls Try.prog 24 #[.agg #[.slice A qs.length c], .agg #[.int .i64 a, .int .i64 b, .int .i64 k, .int .i64 d, .int .i64 e]] W (ReadPost (readR (dks ps) a b k d e) W) := fun A c qs W hq hW => by
    have := impl_rread A c qs a b k d e W (HSx.of hq).1 (HSx.of hq).2 hW
    rwa [hq] at this
  obtain ⟨X, hX⟩ : ∃ X, X = dks ps := ⟨_, rfl⟩
  simp only [← hX] at hT hSp hIm HSx
  obtain ⟨R, hR⟩ : ∃ R, R = readR X a b k d e := ⟨_, rfl⟩
  simp only [← hR] at hSp hIm
  obtain ⟨t, v⟩ := R
  unfold ReadPost at hSp hIm
  simp only at hSp hIm
  clear hR hX hn hfp
  have nb : (v != v) = false := by simp
  have nt : (t != t) = false := by unfold bne; rw [show (t == t) = true from by rw [beq_toListBytes]; exact beq_self_eq_true _]; rfl
  have hTd := hT w1.drew BB.drew
  obtain ⟨q0, q1, q2, q3, q4, _, _⟩ := id hp
  go_upto_region 5 with fail
  go_cut [6, 7] (fun s0 s1 wx => s0 = .string t ∧ s1 = .bool v ∧ Below w1.heap.size w1 wx)
  case first =>
    first
      | go_region_with (first
        | (go_at_call 18; refine hTd.mono ?_; rintro r wa ⟨pv, Av, cv, rfl, dv, fv, hba⟩; obtain ⟨y0, y1, y2, y3, y4, _, _⟩ := Hp5.next (W := w1.drew) hp hba)
        | (go_at_call 23; refine (hTp _).mono ?_; rintro r wb ⟨rfl, hbb⟩; have L := hSp Av cv pv wb dv (fv.below hbb).at_)
        | (go_at_call 22; refine L.mono ?_; rintro r wc ⟨rfl, hbc⟩))
      | fail "region"
    all_goals go_wp2_with fail
    all_goals (try go_simp)
    all_goals go_meet
    all_goals exact ⟨rfl, rfl, bel_then (bel_then (bel_then (Below.refl _ _).drew hba) hbb) hbc⟩
  case rest =>
    obtain ⟨rfl, rfl, hb2⟩ := hcut
    obtain ⟨w2, ew2, hb2⟩ : ∃ W, W = _ ∧ Below w1.heap.size w1 W := ⟨_, rfl, hb2⟩
    subst ew2
    have sw2 := hb2.size
    have ba := ba.below hb2
    have BB := bel_then BB hb2
    have hp := hp.next hb2
    clear q0 q1 q2 q3 q4 x0 hTd hSp
    obtain ⟨x0, _⟩ := ba.cells
    go_wp2_with (go_at_call 18; refine (hT _ BB).mono ?_; rintro r w3 ⟨px, Ax, cx, rfl, dx, fx, hb3⟩; refine Hid.out ?_)
    refine Lib.hid ?_
    have sw3 := hb3.size
    have ba := ba.below hb3
    have BB := bel_then BB hb3
    have hp := hp.next hb3
    have fx := fx.box
    clear hb3
    have bx := B1.new w3 24 (.slice Ax px.length cx)
    have bl : Below w3.heap.size w3 (w3.alloc (.cells #[.slice Ax px.length cx] 24)) := (Below.refl _ _).alloc (Nat.le_refl _) _
    have ba := ba.below bl
    have fx := fx.below bl
    have BB := bel_then BB bl
    have hp := hp.next bl
    clear bl
    clear x0
    obtain ⟨x0, _⟩ := bx.cells
    obtain ⟨q0, q1, q2, q3, q4, _, _⟩ := id hp
    have fd := fx.drew
    go_upto_region 6 with fail
    go_cut [9, 10] (fun s0 s1 wx => s0 = .string t ∧ s1 = .bool v ∧ Below (w3.alloc (.cells #[.slice Ax px.length cx] 24)).heap.size (w3.alloc (.cells #[.slice Ax px.length cx] 24)) wx)
    case first =>
      first
        | go_region_with (first
          | (go_at_call 23; refine (hTp _).mono ?_; rintro r wb ⟨rfl, hbb⟩; obtain ⟨y0, _⟩ := (B1.below (W := (w3.alloc (.cells #[.slice Ax px.length cx] 24)).drew) bx hbb).cells; have L := hIm Ax cx px wb dx (RBox.below (W := (w3.alloc (.cells #[.slice Ax px.length cx] 24)).drew) fd hbb).at_)
          | (go_at_call 24; refine L.mono ?_; rintro r wc ⟨rfl, hbc⟩))
        | fail "region"
      all_goals go_wp2_with fail
      all_goals (try go_simp)
      all_goals go_meet
      all_goals exact ⟨rfl, rfl, bel_then (bel_then (Below.refl _ _).drew hbb) hbc⟩
    case rest =>
      obtain ⟨rfl, rfl, hb4⟩ := hcut
      obtain ⟨w4, ew4, hb4⟩ : ∃ W, W = _ ∧ Below (w3.alloc (.cells #[.slice Ax px.length cx] 24)).heap.size (w3.alloc (.cells #[.slice Ax px.length cx] 24)) W := ⟨_, rfl, hb4⟩
      subst ew4
      have sw4 := hb4.size
      rw [World.size_alloc] at sw4
      have ba := ba.below hb4
      have bx := bx.below hb4
      have fx := fx.below hb4
      have BB := bel_then BB hb4
      have hp := hp.next hb4
      clear q0 q1 q2 q3 q4 x0 fd hTp hIm
      obtain ⟨x0, _⟩ := bx.cells
      obtain ⟨x1, _⟩ := ba.cells
      have hTd := hT w4.drew BB.drew
      have fd := fx.drew
      go_upto_region 10 with fail
      go_cut [45] (fun s wx => s = .bool false ∧ Below w4.heap.size w4 wx)
      case first =>
        first
          | go_region_with (first
            | (go_at_call 18; refine hTd.mono ?_; rintro r w5 ⟨pt, At, ct, rfl, dt, ft, hb5⟩; obtain ⟨y0, _⟩ := (bx.drew.below hb5).cells; have E := eq_two (ca := cx) (cb := ct) HSx dx dt (fd.below hb5).at_ ft.at_)
            | (go_at_call 13; refine E.mono ?_; rintro r w6 ⟨rfl, hb6⟩))
          | fail "region"
        all_goals go_wp2_with fail
        all_goals go_meet
        all_goals exact ⟨rfl, bel_then (bel_then (Below.refl _ _).drew hb5) hb6⟩
      case rest =>
        obtain ⟨rfl, hb6⟩ := hcut
        obtain ⟨w6, ew6, hb6⟩ : ∃ W, W = _ ∧ Below w4.heap.size w4 W := ⟨_, rfl, hb6⟩
        subst ew6
        have sw6 := hb6.size
        have ba := ba.below hb6
        have bx := bx.below hb6
        have fx := fx.below hb6
        have BB := bel_then BB hb6
        have hp := hp.next hb6
        clear x0 x1 hTd fd hb6
        go_wp2_with fail
        go_ret
        exact ⟨rfl, BB⟩
end Go.Proofs.Ytndckncoipkhaaa
