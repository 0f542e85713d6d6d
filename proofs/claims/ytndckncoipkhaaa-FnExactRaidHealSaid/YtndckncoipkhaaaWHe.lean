/-
  FnExactRaidHeal's walk.
-/
import Derived.Test.YtndckncoipkhaaaRHt
import Derived.Test.YtndckncoipkhaaaKI
import Derived.Test.YtndckncoipkhaaaWRd
namespace Go.Proofs.Ytndckncoipkhaaa
open Go.RowKit

theorem bulk_okH {d : Dk} (h : DkOk d) : Bulk d ∧ d.cells.length ≤ 64 ∧ d.waits.length ≤ 120 := by
  obtain ⟨h64, h120, _, hsm, hws⟩ := h
  exact ⟨⟨by omega, by omega, fun s hs => Nat.le_trans (hsm s hs) (by decide), fun x hx => Nat.le_trans (hws x hx).2.2 (by decide)⟩, by omega, h120⟩
theorem bulk_putH {d D : Dk} {n : Int} {t : ByteArray} {v : Bool} (h : DkOk d) (hp : putD d n t v = some D) : Bulk D ∧ D.cells.length ≤ 64 ∧ D.waits.length ≤ 120 := by
  unfold putD at hp
  split at hp
  · injection hp with hp
    rw [← hp]
    exact bulk_okH h
  · split at hp
    · rename_i _ hT
      injection hp with hp
      rw [← hp]
      obtain ⟨b, b1, b2⟩ := bulk_okH h
      refine ⟨⟨b.cells, by simp only [List.length_append, List.length_singleton]; omega, b.texts, fun x hx => ?_⟩, b1, by simp only [List.length_append, List.length_singleton]; omega⟩
      rcases List.mem_append.1 hx with hx | hx
      · exact b.wtexts x hx
      · rw [List.mem_singleton] at hx
        rw [hx]
        exact Nat.le_trans hT.1.2.2.2 (by decide)
    · cases hp
theorem small_heal {R : List Dk} {a b c d e : Int} : Small (healR R a b c d e).1 := by
  by_cases h : GoodH R a b c d e
  · rw [healR_yes h]
    have hok := (read_yes h.1).1
    refine small_three (by simp only [putL_len]; exact hok.1) fun d hd => ?_
    obtain ⟨j, hj, rfl⟩ := List.getElem_of_mem hd
    have hj2 : j < R.length := by simpa only [putL_len] using hj
    obtain ⟨D, hD⟩ := Option.isSome_iff_exists.1 (h.2 j hj2)
    rw [putL_at _ _ _ _ j hj2 D hD]
    have hRj : R.getD j dk0 = R[j] := by simp [List.getD_eq_getElem?_getD, hj2]
    unfold putF at hD
    rw [hRj] at hD
    exact bulk_putH (hok.2 _ (List.getElem_mem hj2)) hD
  · rw [healR_no h]
    exact small_nil
/-- The cells of a box and of a pointer, kept from cur on. -/
def KB (H G : Nat) (n : Value) (a b c d e : Int) (cur W : World) : Prop :=
  W.cell? ⟨H, 0, none⟩ = some n ∧ W.cell? ⟨G, 0, none⟩ = some (.int .i64 a) ∧ W.cell? ⟨G, 1, none⟩ = some (.int .i64 b) ∧ W.cell? ⟨G, 2, none⟩ = some (.int .i64 c) ∧ W.cell? ⟨G, 3, none⟩ = some (.int .i64 d) ∧ W.cell? ⟨G, 4, none⟩ = some (.int .i64 e) ∧ H < W.heap.size ∧ G < W.heap.size ∧ Below cur.heap.size cur W
theorem KB.next {H G : Nat} {n : Value} {a b c d e : Int} {cur W W' : World} (h : KB H G n a b c d e cur W) (hb : Below W.heap.size W W') : KB H G n a b c d e cur W' := by
  obtain ⟨h0, h1, h2, h3, h4, h5, hH, hG, hB⟩ := h
  exact ⟨(hb.cell (p := ⟨H, 0, none⟩) hH).trans h0, (hb.cell (p := ⟨G, 0, none⟩) hG).trans h1, (hb.cell (p := ⟨G, 1, none⟩) hG).trans h2, (hb.cell (p := ⟨G, 2, none⟩) hG).trans h3, (hb.cell (p := ⟨G, 3, none⟩) hG).trans h4, (hb.cell (p := ⟨G, 4, none⟩) hG).trans h5, Nat.lt_of_lt_of_le hH hb.size, Nat.lt_of_lt_of_le hG hb.size, bel_then hB hb⟩
theorem KB.alloc {H G : Nat} {n : Value} {a b c d e : Int} {cur W : World} (h : KB H G n a b c d e cur W) (o : Obj) : KB H G n a b c d e cur (W.alloc o) := h.next (bel_new (Below.refl _ _) o)
theorem KB.drew {H G : Nat} {n : Value} {a b c d e : Int} {cur W : World} (h : KB H G n a b c d e cur W) : KB H G n a b c d e cur W.drew := h.next (Below.refl _ _).drew
theorem KB.bel {H G : Nat} {n : Value} {a b c d e : Int} {cur W : World} (h : KB H G n a b c d e cur W) : Below cur.heap.size cur W := h.2.2.2.2.2.2.2.2
theorem KB.set {H G : Nat} {n : Value} {a b c d e : Int} {cur W : World} (h : KB H G n a b c d e cur W) (hH : H < cur.heap.size) (hG : G < cur.heap.size) {q : Nat} (hq : cur.heap.size ≤ q) (u : Value) : KB H G n a b c d e cur (W.setCell ⟨q, 0, none⟩ u) := by
  obtain ⟨h0, h1, h2, h3, h4, h5, hHW, hGW, hB⟩ := h
  have hs : ∀ (B i : Nat), B < cur.heap.size → (W.setCell ⟨q, 0, none⟩ u).cell? ⟨B, i, none⟩ = W.cell? ⟨B, i, none⟩ := fun B i hl => World.cell?_of_block (a := ⟨B, i, none⟩) (Below.heap_setCell W ⟨q, 0, none⟩ u B (by show B ≠ q; omega))
  exact ⟨(hs _ _ hH).trans h0, (hs _ _ hG).trans h1, (hs _ _ hG).trans h2, (hs _ _ hG).trans h3, (hs _ _ hG).trans h4, (hs _ _ hG).trans h5, by rw [size_put]; exact hHW, by rw [size_put]; exact hGW, hB.setCell (p := ⟨q, 0, none⟩) hq u⟩
theorem KB.mk' {H G : Nat} {t : TypeId} {n : Value} {a b c d e : Int} {W : World} (h : B1 W H t n) (g : Hp5 G a b c d e W) : KB H G n a b c d e W W := ⟨h.cells.1, g.1, g.2.1, g.2.2.1, g.2.2.2.1, g.2.2.2.2.1, h.lt, g.2.2.2.2.2.1, Below.refl _ _⟩
theorem Hp5.grown1 {W W' : World} {g lo hi : Nat} {a b c d e : Int} (h : Hp5 g a b c d e W) (hg : Only lo hi W W') (hn : ¬ (lo ≤ g ∧ g < hi)) : Hp5 g a b c d e W' := by
  obtain ⟨h0, h1, h2, h3, h4, hl, hx⟩ := h
  have hb := hg.block g hl hn
  exact ⟨(World.cell?_of_block (a := ⟨g, 0, none⟩) hb).trans h0, (World.cell?_of_block (a := ⟨g, 1, none⟩) hb).trans h1, (World.cell?_of_block (a := ⟨g, 2, none⟩) hb).trans h2, (World.cell?_of_block (a := ⟨g, 3, none⟩) hb).trans h3, (World.cell?_of_block (a := ⟨g, 4, none⟩) hb).trans h4, Nat.lt_of_lt_of_le hl hg.size, hx⟩
theorem B1.put {W : World} {g : Nat} {t : TypeId} {x : Value} (h : B1 W g t x) (u : Value) : B1 (W.setCell ⟨g, 0, none⟩ u) g t u := by
  have h' : W.heap[g]? = some (.cells #[x] t (0, 0)) := h
  show (W.setCell ⟨g, 0, none⟩ u).heap[g]? = some (.cells #[u] t (0, 0))
  simp [World.setCell, Array.getElem?_modify, h']
theorem only_one (W : World) (g : Nat) (u : Value) : Only g (g + 1) W (W.setCell ⟨g, 0, none⟩ u) := Only.of_grown (grown_set W ⟨g, 0, none⟩ u) (fun k e => by injection e with e; subst e; exact ⟨Nat.le_refl _, Nat.lt_succ_self _⟩)

set_option maxRecDepth 100000 in
set_option maxHeartbeats 8000000 in
theorem walk_eheal (A : Option Addr) (c : Nat) (ps : List RD) (a b k d e : Int) (w : World) (hA : RArg w A ps) :
    Calls Try.prog 7 #[.agg #[.slice A ps.length c], .agg #[.int .i64 a, .int .i64 b, .int .i64 k, .int .i64 d, .int .i64 e]] w fun r w' => r = .returned (.bool true) ∧ Below w.heap.size w w' := by
  have ba := (B1.new w 31 (.slice A ps.length c)).alloc (.cells #[.int .i64 a, .int .i64 b, .int .i64 k, .int .i64 d, .int .i64 e] 40)
  have BB := bel_new (bel_new (Below.refl w.heap.size w) (.cells #[.slice A ps.length c] 31)) (.cells #[.int .i64 a, .int .i64 b, .int .i64 k, .int .i64 d, .int .i64 e] 40)
  have hP0 := Cut.HP.new (w.alloc (.cells #[.slice A ps.length c] 31)) a b k d e 40
  have hp : Hp5 (w.heap.size + 1) a b k d e ((w.alloc (.cells #[.slice A ps.length c] 31)).alloc (.cells #[.int .i64 a, .int .i64 b, .int .i64 k, .int .i64 d, .int .i64 e] 40)) := by
    unfold Cut.HP at hP0
    rw [World.size_alloc] at hP0
    exact ⟨hP0.1, hP0.2.1, hP0.2.2.1, hP0.2.2.2.1, hP0.2.2.2.2.1, hP0.2.2.2.2.2.1, trivial⟩
  clear hP0
  have hS := fun W (hW : Below w.heap.size w W) => sz_raid A c ps 1048576 W (by omega) (by omega) hA.n hA.f (hA.at_.below hW)
  have hTp : ∀ W, Calls Try.prog 23 #[.agg #[.int .i64 a, .int .i64 b, .int .i64 k, .int .i64 d, .int .i64 e]] W fun r w' => r = .returned (.agg #[.int .i64 a, .int .i64 b, .int .i64 k, .int .i64 d, .int .i64 e]) ∧ Below W.heap.size W w' := fun W => (Cut.to_ptr a b k d e W).mono fun r w' ⟨h1, h2⟩ => ⟨h1, by subst h2; exact bel_new (bel_new (bel_new (Below.refl _ _) _) _) _⟩
  obtain ⟨_, hF, hA⟩ := hA
  go_enter Try.func7, Try.ntmps7
  go_wp2_with (go_at_call 16; refine (hS _ BB).mono ?_; rintro r w1 ⟨z, rfl, hb1, hz⟩; refine Hid.out ?_)
  refine Lib.hid ?_
  have ba := ba.below hb1
  have hp := hp.next hb1
  have BB := bel_then BB hb1
  clear hS hb1
  obtain ⟨x0, _⟩ := ba.cells
  by_cases hzz : z < 0
  · go_wp2_with fail
    go_ret
    exact ⟨rfl, BB⟩
  have hzn : ¬ z < 0 := hzz
  have HSx := small_arg hF (hz (by omega)) (by omega)
  have hn := (HSx.of rfl).1
  have hfp := (HSx.of rfl).2
  clear hF hz
  have hT := fun W (hW : Below w.heap.size w W) => to_raid A c ps W hn hfp (hA.below hW)
  clear hA
  have HS : Small (healR (dks ps) a b k d e).1 := small_heal
  have hSp : ∀ (A : Option Addr) (c : Nat) (qs : List RD) (W : World), dks qs = dks ps → RAt W A qs → Calls Try.prog 25 #[.agg #[.slice A qs.length c], .agg #[.int .i64 a, .int .i64 b, .int .i64 k, .int .i64 d, .int .i64 e]] W (RPostK3 (healR (dks ps) a b k d e).1 (healR (dks ps) a b k d e).2.1 (healR (dks ps) a b k d e).2.2 W) := fun A c qs W hq hW => by
    have := spec_rheal A c qs a b k d e W (HSx.of hq).1 (HSx.of hq).2 hW
    rwa [hq] at this
  have hIm : ∀ (A : Option Addr) (c : Nat) (qs : List RD) (W : World), dks qs = dks ps → RAt W A qs → Calls Try.prog 26 #[.agg #[.slice A qs.length c], .agg #[.int .i64 a, .int .i64 b, .int .i64 k, .int .i64 d, .int .i64 e]] W (RPost3 (healR (dks ps) a b k d e).1 (healR (dks ps) a b k d e).2.1 (healR (dks ps) a b k d e).2.2 W) := fun A c qs W hq hW => by
    have := impl_rheal A c qs a b k d e W (HSx.of hq).1 (HSx.of hq).2 hW
    rwa [hq] at this
  obtain ⟨X, hX⟩ : ∃ X, X = dks ps := ⟨_, rfl⟩
  simp only [← hX] at hT hSp hIm HSx HS
  obtain ⟨R, hR⟩ : ∃ R, R = (healR X a b k d e).1 := ⟨_, rfl⟩
  obtain ⟨m, hm⟩ : ∃ m, m = (healR X a b k d e).2.1 := ⟨_, rfl⟩
  obtain ⟨v, hv⟩ : ∃ v, v = (healR X a b k d e).2.2 := ⟨_, rfl⟩
  simp only [← hR, ← hm, ← hv] at hSp hIm HS
  unfold RPostK3 at hSp
  unfold RPost3 at hIm
  clear hR hm hv hX hn hfp
  have nb : (v != v) = false := by simp
  have nm : (m != m) = false := by simp
  have nq : ¬ (((1 + mkR R : Nat) : Int)) < 0 := by omega
  have nqx : ¬ (((1 + mkR X : Nat) : Int)) < 0 := by omega
  have nq2 : (((1 + mkR R : Nat) : Int) != ((1 + mkR R : Nat) : Int)) = false := by simp
  have hwG : w.heap.size + 1 < w1.heap.size := hp.2.2.2.2.2.1
  clear x0
  have K0 : KB w.heap.size (w.heap.size + 1) (.slice A ps.length c) a b k d e w1 w1 := KB.mk' ba hp
  have KD := K0.drew
  have KE := (K0.alloc (.cells #[.slice none 0 0] 24)).drew
  obtain ⟨k0, k1, k2, k3, k4, k5, kH, kG, kB⟩ := id K0
  go_upto_region 5 with fail
  go_cut [6, 7, 8] (fun s0 s1 s2 wx => s1 = .int .i64 m ∧ s2 = .bool v ∧ ∃ (p : List RD) (A : Option Addr) (c lo hi bx : Nat), s0 = .pointer (some ⟨bx, 0, none⟩) ∧ dks p = R ∧ B1 wx bx 24 (.slice A p.length c) ∧ RKeep wx lo hi (.slice A p.length c) p ∧ w1.heap.size ≤ lo ∧ hi ≤ wx.heap.size ∧ w1.heap.size ≤ bx ∧ True ∧ Below w1.heap.size w1 wx)
  case first =>
    go_region_held3 (fun W => W.cell? ⟨w.heap.size, 0, none⟩ = some (.slice A ps.length c) ∧ W.cell? ⟨w.heap.size + 1, 0, none⟩ = some (.int .i64 a) ∧ W.cell? ⟨w.heap.size + 1, 1, none⟩ = some (.int .i64 b) ∧ W.cell? ⟨w.heap.size + 1, 2, none⟩ = some (.int .i64 k) ∧ W.cell? ⟨w.heap.size + 1, 3, none⟩ = some (.int .i64 d) ∧ W.cell? ⟨w.heap.size + 1, 4, none⟩ = some (.int .i64 e) ∧ w.heap.size < W.heap.size ∧ w.heap.size + 1 < W.heap.size ∧ Below w1.heap.size w1 W)
      ((show KB w.heap.size (w.heap.size + 1) (.slice A ps.length c) a b k d e w1 _; with_reducible (first | exact KC | exact KC.alloc _ | exact KP | exact KP.alloc _ | exact KA | exact KA.alloc _ | exact KD | exact KD.alloc _ | exact KE | exact K0 | exact KB.set KC kH kG (by first | exact Nat.le_refl _ | (simp only [World.size_alloc]; exact Nat.le_refl _) | exact KD.bel.size | exact KA.bel.size | exact KP.bel.size | exact KC.bel.size) _)))
      (first
        | (go_at_call 18; refine (hT _ (bel_then BB (KB.bel (by first | exact KC | exact KC.alloc _ | exact KP | exact KP.alloc _ | exact KA | exact KA.alloc _ | exact KD | exact KD.alloc _ | exact KE)))).mono ?_; rintro r wa ⟨pv, Av, cv, rfl, dv, fv, hba⟩; have KA := KB.next (by first | exact KC | exact KC.alloc _ | exact KP | exact KP.alloc _ | exact KA | exact KA.alloc _ | exact KD | exact KD.alloc _ | exact KE) hba; (first | (have hbx := B1.below (W := (w1.alloc (.cells #[.slice none 0 0] 24)).drew) (B1.new w1 24 (.slice none 0 0)) hba; (try simp only [World.size_alloc] at hbx); obtain ⟨zb, fb⟩ := hbx.cells) | (have hbx := B1.below (B1.new _ 24 (.slice none 0 0)) hba; (try simp only [World.size_alloc] at hbx); obtain ⟨zb, fb⟩ := hbx.cells) | (have hbx := B1.below hbx hba; (try simp only [World.size_alloc] at hbx); obtain ⟨zb, fb⟩ := hbx.cells) | skip))
        | (go_at_call 23; refine (hTp _).mono ?_; rintro r wb ⟨rfl, hbb⟩; have KP := KB.next (by first | exact KC | exact KC.alloc _ | exact KP | exact KP.alloc _ | exact KA | exact KA.alloc _ | exact KD | exact KD.alloc _ | exact KE) hbb; (first | (have hbx := B1.below (W := (w1.alloc (.cells #[.slice none 0 0] 24)).drew) (B1.new w1 24 (.slice none 0 0)) hbb; (try simp only [World.size_alloc] at hbx); obtain ⟨zb, fb⟩ := hbx.cells) | (have hbx := B1.below (B1.new _ 24 (.slice none 0 0)) hbb; (try simp only [World.size_alloc] at hbx); obtain ⟨zb, fb⟩ := hbx.cells) | (have hbx := B1.below hbx hbb; (try simp only [World.size_alloc] at hbx); obtain ⟨zb, fb⟩ := hbx.cells) | skip); (first | (have fv := ROwn.below (by first | exact fv | exact fv.below (bel_new (Below.refl _ _) _)) hbb) | skip))
        | (go_at_call 25; refine (hSp Av cv pv _ dv (ROwn.at_ (by first | exact fv | exact fv.below (bel_new (Below.refl _ _) _)))).mono ?_; rintro r wc ⟨p0, A0, c0, rfl, d0, f0, hbc⟩; have KC := KB.next (by first | exact KC | exact KC.alloc _ | exact KP | exact KP.alloc _ | exact KA | exact KA.alloc _ | exact KD | exact KD.alloc _ | exact KE) hbc; (first | (have hbx := B1.below (W := (w1.alloc (.cells #[.slice none 0 0] 24)).drew) (B1.new w1 24 (.slice none 0 0)) hbc; (try simp only [World.size_alloc] at hbx); obtain ⟨zb, fb⟩ := hbx.cells) | (have hbx := B1.below (B1.new _ 24 (.slice none 0 0)) hbc; (try simp only [World.size_alloc] at hbx); obtain ⟨zb, fb⟩ := hbx.cells) | (have hbx := B1.below hbx hbc; (try simp only [World.size_alloc] at hbx); obtain ⟨zb, fb⟩ := hbx.cells) | skip)))
    all_goals go_wp2_with fail
    all_goals (try go_simp)
    all_goals go_meet
    all_goals first
      | exact ⟨rfl, rfl, p0, A0, c0, _, _, _, rfl, d0, B1.new _ 24 _, f0.below (bel_new (Below.refl _ _) _), (by first | exact KP.bel.size | exact (KB.alloc KP _).bel.size | exact KA.bel.size | exact (KB.alloc KA _).bel.size), by rw [World.size_alloc]; exact Nat.le_succ _, KC.bel.size, trivial, bel_new KC.bel _⟩
      | exact ⟨rfl, rfl, p0, A0, c0, _, _, _, rfl, d0, B1.put hbx _, f0.box hbx (by decide) (by decide) (by decide) (by decide) _, (by first | exact KP.bel.size | exact (KB.alloc KP _).bel.size | exact KA.bel.size | exact (KB.alloc KA _).bel.size), (Nat.le_of_eq (size_put _ _ _).symm), (by first | exact Nat.le_refl _ | (simp only [World.size_alloc]; exact Nat.le_refl _) | exact KD.bel.size | exact KA.bel.size | exact KP.bel.size | exact KC.bel.size), trivial, KC.bel.setCell (p := ⟨_, 0, none⟩) (by first | exact Nat.le_refl _ | (simp only [World.size_alloc]; exact Nat.le_refl _) | exact KD.bel.size | exact KA.bel.size | exact KP.bel.size | exact KC.bel.size) _⟩
  case rest =>
    obtain ⟨rfl, rfl, p0, A0, c0, lo0, hi0, bx0, rfl, d0, b0, f0, hlo0, hhi0, hbx0, hap0, hb2⟩ := hcut
    obtain ⟨w2, ew2, hb2⟩ : ∃ W, W = _ ∧ Below w1.heap.size w1 W := ⟨_, rfl, hb2⟩
    subst ew2
    have sw2 := hb2.size
    have ba := ba.below hb2
    have BB := bel_then BB hb2
    have hp := hp.next hb2
    clear K0 KD KE k0 k1 k2 k3 k4 k5 kH kG kB hb2
    have hbl0 := b0.lt
    clear hSp
    obtain ⟨x0, _⟩ := ba.cells
    go_wp2_with (go_at_call 18; refine (hT _ BB).mono ?_; rintro r w3 ⟨px, Ax, cx, rfl, dx, fx, hb3⟩; refine Hid.out ?_)
    refine Lib.hid ?_
    have sw3 := hb3.size
    have ba := ba.below hb3
    have b0 := b0.below hb3
    have f0 := f0.below hb3
    have BB := bel_then BB hb3
    have hp := hp.next hb3
    have fx := fx.box
    clear hb3
    have bx := B1.new w3 24 (.slice Ax px.length cx)
    have bl : Below w3.heap.size w3 (w3.alloc (.cells #[.slice Ax px.length cx] 24)) := (Below.refl _ _).alloc (Nat.le_refl _) _
    have ba := ba.below bl
    have b0 := b0.below bl
    have f0 := f0.below bl
    have fx := fx.below bl
    have BB := bel_then BB bl
    have hp := hp.next bl
    clear bl
    clear x0
    have K0 : KB w3.heap.size (w.heap.size + 1) (.slice Ax px.length cx) a b k d e (w3.alloc (.cells #[.slice Ax px.length cx] 24)) (w3.alloc (.cells #[.slice Ax px.length cx] 24)) := KB.mk' bx hp
    have KD := K0.drew
    have KE := (K0.alloc (.cells #[.slice none 0 0] 24)).drew
    obtain ⟨k0, k1, k2, k3, k4, k5, kH, kG, kB⟩ := id K0
    go_upto_region 7 with fail
    go_cut [10, 11, 12] (fun s0 s1 s2 wx => s1 = .int .i64 m ∧ s2 = .bool v ∧ ∃ (p : List RD) (A : Option Addr) (c lo hi bx : Nat), s0 = .pointer (some ⟨bx, 0, none⟩) ∧ dks p = R ∧ B1 wx bx 24 (.slice A p.length c) ∧ RBox wx lo hi (.slice A p.length c) p ∧ (w3.alloc (.cells #[.slice Ax px.length cx] 24)).heap.size ≤ lo ∧ hi ≤ wx.heap.size ∧ (w3.alloc (.cells #[.slice Ax px.length cx] 24)).heap.size ≤ bx ∧ (bx < lo ∨ hi ≤ bx) ∧ Below (w3.alloc (.cells #[.slice Ax px.length cx] 24)).heap.size (w3.alloc (.cells #[.slice Ax px.length cx] 24)) wx)
    case first =>
      go_region_held3 (fun W => W.cell? ⟨w3.heap.size, 0, none⟩ = some (.slice Ax px.length cx) ∧ W.cell? ⟨w.heap.size + 1, 0, none⟩ = some (.int .i64 a) ∧ W.cell? ⟨w.heap.size + 1, 1, none⟩ = some (.int .i64 b) ∧ W.cell? ⟨w.heap.size + 1, 2, none⟩ = some (.int .i64 k) ∧ W.cell? ⟨w.heap.size + 1, 3, none⟩ = some (.int .i64 d) ∧ W.cell? ⟨w.heap.size + 1, 4, none⟩ = some (.int .i64 e) ∧ w3.heap.size < W.heap.size ∧ w.heap.size + 1 < W.heap.size ∧ Below (w3.alloc (.cells #[.slice Ax px.length cx] 24)).heap.size (w3.alloc (.cells #[.slice Ax px.length cx] 24)) W)
        ((show KB w3.heap.size (w.heap.size + 1) (.slice Ax px.length cx) a b k d e (w3.alloc (.cells #[.slice Ax px.length cx] 24)) _; with_reducible (first | exact KC | exact KC.alloc _ | exact KP | exact KP.alloc _ | exact KA | exact KA.alloc _ | exact KD | exact KD.alloc _ | exact KE | exact K0 | exact KB.set KC kH kG (by first | exact Nat.le_refl _ | (simp only [World.size_alloc]; exact Nat.le_refl _) | exact KD.bel.size | exact KA.bel.size | exact KP.bel.size | exact KC.bel.size) _)))
        (first
          | (go_at_call 23; refine (hTp _).mono ?_; rintro r wb ⟨rfl, hbb⟩; have KP := KB.next (by first | exact KC | exact KC.alloc _ | exact KP | exact KP.alloc _ | exact KA | exact KA.alloc _ | exact KD | exact KD.alloc _ | exact KE) hbb; (first | (have hbx := B1.below (W := ((w3.alloc (.cells #[.slice Ax px.length cx] 24)).alloc (.cells #[.slice none 0 0] 24)).drew) (B1.new (w3.alloc (.cells #[.slice Ax px.length cx] 24)) 24 (.slice none 0 0)) hbb; (try simp only [World.size_alloc] at hbx); obtain ⟨zb, fb⟩ := hbx.cells) | (have hbx := B1.below (B1.new _ 24 (.slice none 0 0)) hbb; (try simp only [World.size_alloc] at hbx); obtain ⟨zb, fb⟩ := hbx.cells) | (have hbx := B1.below hbx hbb; (try simp only [World.size_alloc] at hbx); obtain ⟨zb, fb⟩ := hbx.cells) | skip); (first | (have fv := ROwn.below (by first | exact fv | exact fv.below (bel_new (Below.refl _ _) _)) hbb) | skip))
          | (go_at_call 26; (first | (have hbl := B1.lt hbx) | skip); refine (hIm Ax cx px _ dx (RBox.at_ (RBox.below fx (KB.bel (by first | exact KC | exact KC.alloc _ | exact KP | exact KP.alloc _ | exact KA | exact KA.alloc _ | exact KD | exact KD.alloc _ | exact KE))))).mono ?_; rintro r wc ⟨pg, Ag, cg, rfl, dg, fg, hbc⟩; have KC := KB.next (by first | exact KC | exact KC.alloc _ | exact KP | exact KP.alloc _ | exact KA | exact KA.alloc _ | exact KD | exact KD.alloc _ | exact KE) hbc; (first | (have hbx := B1.below (W := ((w3.alloc (.cells #[.slice Ax px.length cx] 24)).alloc (.cells #[.slice none 0 0] 24)).drew) (B1.new (w3.alloc (.cells #[.slice Ax px.length cx] 24)) 24 (.slice none 0 0)) hbc; (try simp only [World.size_alloc] at hbx); obtain ⟨zb, fb⟩ := hbx.cells) | (have hbx := B1.below (B1.new _ 24 (.slice none 0 0)) hbc; (try simp only [World.size_alloc] at hbx); obtain ⟨zb, fb⟩ := hbx.cells) | (have hbx := B1.below hbx hbc; (try simp only [World.size_alloc] at hbx); obtain ⟨zb, fb⟩ := hbx.cells) | skip)))
      all_goals go_wp2_with fail
      all_goals (try go_simp)
      all_goals go_meet
      all_goals first
        | exact ⟨rfl, rfl, pg, Ag, cg, _, _, _, rfl, dg, B1.new _ 24 _, fg.box.below (bel_new (Below.refl _ _) _), (by first | exact KP.bel.size | exact (KB.alloc KP _).bel.size | exact KA.bel.size | exact (KB.alloc KA _).bel.size), by rw [World.size_alloc]; exact Nat.le_succ _, KC.bel.size, .inr (Nat.le_refl _), bel_new KC.bel _⟩
        | exact ⟨rfl, rfl, pg, Ag, cg, _, _, _, rfl, dg, B1.put hbx _, fg.box.only (only_one _ _ _) (.inl (Nat.succ_le_of_lt (by first | exact hbl | (rw [World.size_alloc]; exact Nat.lt_succ_self _)))), (by first | exact KP.bel.size | exact (KB.alloc KP _).bel.size | exact KA.bel.size | exact (KB.alloc KA _).bel.size), (Nat.le_of_eq (size_put _ _ _).symm), (by first | exact Nat.le_refl _ | (simp only [World.size_alloc]; exact Nat.le_refl _) | exact KD.bel.size | exact KA.bel.size | exact KP.bel.size | exact KC.bel.size), .inl (by first | exact hbl | (rw [World.size_alloc]; exact Nat.lt_succ_self _)), KC.bel.setCell (p := ⟨_, 0, none⟩) (by first | exact Nat.le_refl _ | (simp only [World.size_alloc]; exact Nat.le_refl _) | exact KD.bel.size | exact KA.bel.size | exact KP.bel.size | exact KC.bel.size) _⟩
    case rest =>
      obtain ⟨rfl, rfl, pg, Ag, cg, log, hig, bxg, rfl, dg, bg, fg, hlog, hhig, hbxg, hapg, hb4⟩ := hcut
      obtain ⟨w4, ew4, hb4⟩ : ∃ W, W = _ ∧ Below (w3.alloc (.cells #[.slice Ax px.length cx] 24)).heap.size (w3.alloc (.cells #[.slice Ax px.length cx] 24)) W := ⟨_, rfl, hb4⟩
      subst ew4
      have sw4 := hb4.size
      rw [World.size_alloc] at sw4
      have ba := ba.below hb4
      have b0 := b0.below hb4
      have bx := bx.below hb4
      have f0 := f0.below hb4
      have fx := fx.below hb4
      have BB := bel_then BB hb4
      have hp := hp.next hb4
      simp only [World.size_alloc] at hlog hbxg
      clear K0 KD KE k0 k1 k2 k3 k4 k5 kH kG kB hb4
      have hblg := bg.lt
      have E := fun W (hW : Below w.heap.size w W) (h1 : RAt W Ag pg) (h2 : RAt W A0 p0) => eq_two (ca := cg) (cb := c0) HS dg d0 h1 h2
      have E := E _ BB fg.at_ f0.at_
      obtain ⟨x0, _⟩ := bg.cells
      obtain ⟨x1, _⟩ := b0.cells
      go_wp2_with (go_at_call 13; refine (E).mono ?_; rintro r w5 ⟨rfl, hb5⟩; refine Hid.out ?_)
      refine Lib.hid ?_
      have sw5 := hb5.size
      have ba := ba.below hb5
      have b0 := b0.below hb5
      have bx := bx.below hb5
      have bg := bg.below hb5
      have f0 := f0.below hb5
      have fx := fx.below hb5
      have fg := fg.below hb5
      have BB := bel_then BB hb5
      have hp := hp.next hb5
      clear E x0 x1 hb5
      obtain ⟨x0, _⟩ := bx.cells
      obtain ⟨x1, _⟩ := ba.cells
      have hTd := hT w5.drew BB.drew
      have fd := fx.drew
      go_upto_region 10 with fail
      go_cut [61] (fun s wx => s = .bool false ∧ Below w5.heap.size w5 wx)
      case first =>
        first
          | go_region_with (first
            | (go_at_call 18; refine hTd.mono ?_; rintro r w6 ⟨pt, At, ct, rfl, dt, ft, hb6⟩; obtain ⟨y0, _⟩ := (bx.drew.below hb6).cells; have E := eq_two (ca := cx) (cb := ct) HSx dx dt (fd.below hb6).at_ ft.at_)
            | (go_at_call 13; refine E.mono ?_; rintro r w7 ⟨rfl, hb7⟩))
          | fail "region"
        all_goals go_wp2_with fail
        all_goals go_meet
        all_goals exact ⟨rfl, bel_then (bel_then (Below.refl _ _).drew hb6) hb7⟩
      case rest =>
        obtain ⟨rfl, hb7⟩ := hcut
        obtain ⟨w7, ew7, hb7⟩ : ∃ W, W = _ ∧ Below w5.heap.size w5 W := ⟨_, rfl, hb7⟩
        subst ew7
        have sw7 := hb7.size
        have ba := ba.below hb7
        have b0 := b0.below hb7
        have bx := bx.below hb7
        have bg := bg.below hb7
        have f0 := f0.below hb7
        have fx := fx.below hb7
        have fg := fg.below hb7
        have BB := bel_then BB hb7
        have hp := hp.next hb7
        clear x0 x1 hTd fd hb7
        have M := mark_two HSx dx (by omega) fx
        clear fx
        obtain ⟨x0, _⟩ := bx.cells
        go_wp2_with (go_at_call 14; refine (M).mono ?_; rintro r w8 ⟨rfl, fx, on⟩; refine Hid.out ?_)
        refine Lib.hid ?_
        have sw8 := on.size
        have BB := BB.trans (on.below (B := w.heap.size) (by omega) (by omega))
        have ba := ba.only on (by omega)
        have b0 := b0.only on (by omega)
        have bx := bx.only on (by omega)
        have bg := bg.only on (by omega)
        have f0 := f0.only on (by omega)
        have fg := fg.only on (by omega)
        have hp : Hp5 (w.heap.size + 1) a b k d e _ := hp.grown1 on (by omega)
        clear M on x0
        have E := fun W (hW : Below w.heap.size w W) (h1 : RAt W Ag pg) (h2 : RAt W A0 p0) => eq_two (ca := cg) (cb := c0) HS dg d0 h1 h2
        have E := E _ BB fg.at_ f0.at_
        obtain ⟨x0, _⟩ := bg.cells
        obtain ⟨x1, _⟩ := b0.cells
        go_wp2_with (go_at_call 13; refine (E).mono ?_; rintro r w9 ⟨rfl, hb9⟩; refine Hid.out ?_)
        refine Lib.hid ?_
        have sw9 := hb9.size
        have ba := ba.below hb9
        have b0 := b0.below hb9
        have bx := bx.below hb9
        have bg := bg.below hb9
        have f0 := f0.below hb9
        have fg := fg.below hb9
        have fx := fx.below hb9
        have BB := bel_then BB hb9
        have hp := hp.next hb9
        clear E x0 x1 hb9
        have M := mark_two HS dg (by omega) fg
        clear fg
        obtain ⟨x0, _⟩ := bg.cells
        go_wp2_with (go_at_call 14; refine (M).mono ?_; rintro r w10 ⟨rfl, fg, on⟩; refine Hid.out ?_)
        refine Lib.hid ?_
        have sw10 := on.size
        have BB := BB.trans (on.below (B := w.heap.size) (by omega) (by omega))
        have ba := ba.only on (by omega)
        have b0 := b0.only on (by omega)
        have bx := bx.only on (by omega)
        have bg := bg.only on (by omega)
        have f0 := f0.only on (by omega)
        have fx := fx.only on (by omega)
        have hp : Hp5 (w.heap.size + 1) a b k d e _ := hp.grown1 on (by omega)
        clear M on x0
        have H := held_two HS dg fg
        obtain ⟨x0, _⟩ := bg.cells
        go_wp2_with (go_at_call 15; refine (H).mono ?_; rintro r w11 ⟨rfl, hb11⟩; refine Hid.out ?_)
        refine Lib.hid ?_
        have sw11 := hb11.size
        have ba := ba.below hb11
        have b0 := b0.below hb11
        have bx := bx.below hb11
        have bg := bg.below hb11
        have f0 := f0.below hb11
        have fx := fx.below hb11
        have fg := fg.below hb11
        have BB := bel_then BB hb11
        have hp := hp.next hb11
        clear H x0 hb11
        have K0 : KB w.heap.size (w.heap.size + 1) (.slice A ps.length c) a b k d e w11 w11 := KB.mk' ba hp
        have KD := K0.drew
        have KE := (K0.alloc (.cells #[.slice none 0 0] 24)).drew
        obtain ⟨k0, k1, k2, k3, k4, k5, kH, kG, kB⟩ := id K0
        go_upto_region 24 with fail
        go_cut [16, 17, 18] (fun s0 s1 s2 wx => s1 = .int .i64 m ∧ s2 = .bool v ∧ ∃ (p : List RD) (A : Option Addr) (c lo hi bx : Nat), s0 = .pointer (some ⟨bx, 0, none⟩) ∧ dks p = R ∧ B1 wx bx 24 (.slice A p.length c) ∧ RBox wx lo hi (.slice A p.length c) p ∧ w11.heap.size ≤ lo ∧ hi ≤ wx.heap.size ∧ w11.heap.size ≤ bx ∧ (bx < lo ∨ hi ≤ bx) ∧ Below w11.heap.size w11 wx)
        case first =>
          go_region_held3 (fun W => W.cell? ⟨w.heap.size, 0, none⟩ = some (.slice A ps.length c) ∧ W.cell? ⟨w.heap.size + 1, 0, none⟩ = some (.int .i64 a) ∧ W.cell? ⟨w.heap.size + 1, 1, none⟩ = some (.int .i64 b) ∧ W.cell? ⟨w.heap.size + 1, 2, none⟩ = some (.int .i64 k) ∧ W.cell? ⟨w.heap.size + 1, 3, none⟩ = some (.int .i64 d) ∧ W.cell? ⟨w.heap.size + 1, 4, none⟩ = some (.int .i64 e) ∧ w.heap.size < W.heap.size ∧ w.heap.size + 1 < W.heap.size ∧ Below w11.heap.size w11 W)
            ((show KB w.heap.size (w.heap.size + 1) (.slice A ps.length c) a b k d e w11 _; with_reducible (first | exact KC | exact KC.alloc _ | exact KP | exact KP.alloc _ | exact KA | exact KA.alloc _ | exact KD | exact KD.alloc _ | exact KE | exact K0 | exact KB.set KC kH kG (by first | exact Nat.le_refl _ | (simp only [World.size_alloc]; exact Nat.le_refl _) | exact KD.bel.size | exact KA.bel.size | exact KP.bel.size | exact KC.bel.size) _)))
            (first
              | (go_at_call 18; refine (hT _ (bel_then BB (KB.bel (by first | exact KC | exact KC.alloc _ | exact KP | exact KP.alloc _ | exact KA | exact KA.alloc _ | exact KD | exact KD.alloc _ | exact KE)))).mono ?_; rintro r wa ⟨pv, Av, cv, rfl, dv, fv, hba⟩; have KA := KB.next (by first | exact KC | exact KC.alloc _ | exact KP | exact KP.alloc _ | exact KA | exact KA.alloc _ | exact KD | exact KD.alloc _ | exact KE) hba; (first | (have hbx := B1.below (W := (w11.alloc (.cells #[.slice none 0 0] 24)).drew) (B1.new w11 24 (.slice none 0 0)) hba; (try simp only [World.size_alloc] at hbx); obtain ⟨zb, fb⟩ := hbx.cells) | (have hbx := B1.below (B1.new _ 24 (.slice none 0 0)) hba; (try simp only [World.size_alloc] at hbx); obtain ⟨zb, fb⟩ := hbx.cells) | (have hbx := B1.below hbx hba; (try simp only [World.size_alloc] at hbx); obtain ⟨zb, fb⟩ := hbx.cells) | skip))
              | (go_at_call 23; refine (hTp _).mono ?_; rintro r wb ⟨rfl, hbb⟩; have KP := KB.next (by first | exact KC | exact KC.alloc _ | exact KP | exact KP.alloc _ | exact KA | exact KA.alloc _ | exact KD | exact KD.alloc _ | exact KE) hbb; (first | (have hbx := B1.below (W := (w11.alloc (.cells #[.slice none 0 0] 24)).drew) (B1.new w11 24 (.slice none 0 0)) hbb; (try simp only [World.size_alloc] at hbx); obtain ⟨zb, fb⟩ := hbx.cells) | (have hbx := B1.below (B1.new _ 24 (.slice none 0 0)) hbb; (try simp only [World.size_alloc] at hbx); obtain ⟨zb, fb⟩ := hbx.cells) | (have hbx := B1.below hbx hbb; (try simp only [World.size_alloc] at hbx); obtain ⟨zb, fb⟩ := hbx.cells) | skip); (first | (have fv := ROwn.below (by first | exact fv | exact fv.below (bel_new (Below.refl _ _) _)) hbb) | skip))
              | (go_at_call 26; (first | (have hbl := B1.lt hbx) | skip); refine (hIm Av cv pv _ dv (ROwn.at_ (by first | exact fv | exact fv.below (bel_new (Below.refl _ _) _)))).mono ?_; rintro r wc ⟨ph, Ah, ch, rfl, dh, fh, hbc⟩; have KC := KB.next (by first | exact KC | exact KC.alloc _ | exact KP | exact KP.alloc _ | exact KA | exact KA.alloc _ | exact KD | exact KD.alloc _ | exact KE) hbc; (first | (have hbx := B1.below (W := (w11.alloc (.cells #[.slice none 0 0] 24)).drew) (B1.new w11 24 (.slice none 0 0)) hbc; (try simp only [World.size_alloc] at hbx); obtain ⟨zb, fb⟩ := hbx.cells) | (have hbx := B1.below (B1.new _ 24 (.slice none 0 0)) hbc; (try simp only [World.size_alloc] at hbx); obtain ⟨zb, fb⟩ := hbx.cells) | (have hbx := B1.below hbx hbc; (try simp only [World.size_alloc] at hbx); obtain ⟨zb, fb⟩ := hbx.cells) | skip)))
          all_goals go_wp2_with fail
          all_goals (try go_simp)
          all_goals go_meet
          all_goals first
            | exact ⟨rfl, rfl, ph, Ah, ch, _, _, _, rfl, dh, B1.new _ 24 _, fh.box.below (bel_new (Below.refl _ _) _), (by first | exact KP.bel.size | exact (KB.alloc KP _).bel.size | exact KA.bel.size | exact (KB.alloc KA _).bel.size), by rw [World.size_alloc]; exact Nat.le_succ _, KC.bel.size, .inr (Nat.le_refl _), bel_new KC.bel _⟩
            | exact ⟨rfl, rfl, ph, Ah, ch, _, _, _, rfl, dh, B1.put hbx _, fh.box.only (only_one _ _ _) (.inl (Nat.succ_le_of_lt (by first | exact hbl | (rw [World.size_alloc]; exact Nat.lt_succ_self _)))), (by first | exact KP.bel.size | exact (KB.alloc KP _).bel.size | exact KA.bel.size | exact (KB.alloc KA _).bel.size), (Nat.le_of_eq (size_put _ _ _).symm), (by first | exact Nat.le_refl _ | (simp only [World.size_alloc]; exact Nat.le_refl _) | exact KD.bel.size | exact KA.bel.size | exact KP.bel.size | exact KC.bel.size), .inl (by first | exact hbl | (rw [World.size_alloc]; exact Nat.lt_succ_self _)), KC.bel.setCell (p := ⟨_, 0, none⟩) (by first | exact Nat.le_refl _ | (simp only [World.size_alloc]; exact Nat.le_refl _) | exact KD.bel.size | exact KA.bel.size | exact KP.bel.size | exact KC.bel.size) _⟩
        case rest =>
          obtain ⟨rfl, rfl, ph, Ah, ch, loh, hih, bxh, rfl, dh, bh, fh, hloh, hhih, hbxh, haph, hb12⟩ := hcut
          obtain ⟨w12, ew12, hb12⟩ : ∃ W, W = _ ∧ Below w11.heap.size w11 W := ⟨_, rfl, hb12⟩
          subst ew12
          have sw12 := hb12.size
          have ba := ba.below hb12
          have b0 := b0.below hb12
          have bx := bx.below hb12
          have bg := bg.below hb12
          have f0 := f0.below hb12
          have fx := fx.below hb12
          have fg := fg.below hb12
          have BB := bel_then BB hb12
          have hp := hp.next hb12
          clear K0 KD KE k0 k1 k2 k3 k4 k5 kH kG kB hb12
          have hblh := bh.lt
          have E := fun W (hW : Below w.heap.size w W) (h1 : RAt W Ah ph) (h2 : RAt W A0 p0) => eq_two (ca := ch) (cb := c0) HS dh d0 h1 h2
          have E := E _ BB fh.at_ f0.at_
          obtain ⟨x0, _⟩ := bh.cells
          obtain ⟨x1, _⟩ := b0.cells
          go_wp2_with (go_at_call 13; refine (E).mono ?_; rintro r w13 ⟨rfl, hb13⟩; refine Hid.out ?_)
          refine Lib.hid ?_
          have sw13 := hb13.size
          have ba := ba.below hb13
          have b0 := b0.below hb13
          have bx := bx.below hb13
          have bg := bg.below hb13
          have bh := bh.below hb13
          have f0 := f0.below hb13
          have fx := fx.below hb13
          have fg := fg.below hb13
          have fh := fh.below hb13
          have BB := bel_then BB hb13
          have hp := hp.next hb13
          clear E x0 x1 hb13
          have H := held_two HS dg fg
          obtain ⟨x0, _⟩ := bg.cells
          go_wp2_with (go_at_call 15; refine H.mono ?_; rintro r w14 ⟨rfl, hb14⟩)
          go_ret
          exact ⟨rfl, bel_then BB hb14⟩
end Go.Proofs.Ytndckncoipkhaaa
