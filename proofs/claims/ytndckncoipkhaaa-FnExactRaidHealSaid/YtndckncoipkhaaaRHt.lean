/-
  RaidHeal, as the reference does.
-/
import Derived.Test.YtndckncoipkhaaaRHs
namespace Go.Proofs.Ytndckncoipkhaaa
open Go.RowKit

theorem bulk_ok {d : Dk} (h : DkOk d) : Bulk d := by
  obtain ⟨h64, h120, _, hsm, hws⟩ := h
  exact ⟨by omega, by omega, fun s hs => Nat.le_trans (hsm s hs) (by decide), fun x hx => Nat.le_trans (hws x hx).2.2 (by decide)⟩
def RPostK3 (R : List Dk) (m : Int) (b : Bool) (w : World) (r : Ending) (w' : World) : Prop :=
  ∃ (ps : List RD) (A : Option Addr) (c : Nat), r = .returned (.tuple #[.agg #[.slice A ps.length c], .int .i64 m, .bool b]) ∧ dks ps = R ∧ RKeep w' w.heap.size w'.heap.size (.slice A ps.length c) ps ∧ Below w.heap.size w w'
/-- The boxes of the call, kept. -/
def HBx (w : World) (n : Value) (a b c d e : Int) (W : World) : Prop := B1 W w.heap.size 24 n ∧ Hp5 (w.heap.size + 1) a b c d e W ∧ B1 W (w.heap.size + 1 + 1) 24 (.slice none 0 0) ∧ Below w.heap.size w W
theorem HBx.next {w : World} {n : Value} {a b c d e : Int} {W W' : World} (h : HBx w n a b c d e W) (hb : Below W.heap.size W W') : HBx w n a b c d e W' := ⟨h.1.below hb, h.2.1.next hb, h.2.2.1.below hb, bel_then h.2.2.2 hb⟩
theorem HBx.drew {w : World} {n : Value} {a b c d e : Int} {W : World} (h : HBx w n a b c d e W) : HBx w n a b c d e W.drew := h.next (Below.refl _ _).drew
theorem healR_bad {R : List Dk} {a b c d e : Int} (h : ¬ (RsOk R ∧ PtrGo a b c d e)) : healR R a b c d e = ([], 0, false) := healR_no (fun h2 => h ⟨(read_yes h2.1).1, (read_yes h2.1).2.1⟩)

set_option maxRecDepth 100000 in
set_option maxHeartbeats 8000000 in
theorem spec_rheal (A : Option Addr) (cap : Nat) (ps : List RD) (a b c d e : Int) (w : World) (hn : ps.length ≤ 1048576) (hf : ∀ p ∈ ps, Bulk p.d) (hA : RAt w A ps) :
    Calls Try.prog 25 #[.agg #[.slice A ps.length cap], .agg #[.int .i64 a, .int .i64 b, .int .i64 c, .int .i64 d, .int .i64 e]] w (RPostK3 (healR (dks ps) a b c d e).1 (healR (dks ps) a b c d e).2.1 (healR (dks ps) a b c d e).2.2 w) := by
  have bl : Below w.heap.size w (((w.alloc (.cells #[.slice A ps.length cap] 24)).alloc (.cells #[.int .i64 a, .int .i64 b, .int .i64 c, .int .i64 d, .int .i64 e] 43)).alloc (.cells #[.slice none 0 0] 24)) := bel_new (bel_new (bel_new (Below.refl _ _) _) _) _
  have b0 := ((B1.new w 24 (.slice A ps.length cap)).alloc (.cells #[.int .i64 a, .int .i64 b, .int .i64 c, .int .i64 d, .int .i64 e] 43)).alloc (.cells #[.slice none 0 0] 24)
  have hP0 := Cut.HP.new (w.alloc (.cells #[.slice A ps.length cap] 24)) a b c d e 43
  have hP : Hp5 (w.heap.size + 1) a b c d e (((w.alloc (.cells #[.slice A ps.length cap] 24)).alloc (.cells #[.int .i64 a, .int .i64 b, .int .i64 c, .int .i64 d, .int .i64 e] 43)).alloc (.cells #[.slice none 0 0] 24)) := by
    unfold Cut.HP at hP0
    rw [World.size_alloc] at hP0
    have h1 : Hp5 (w.heap.size + 1) a b c d e ((w.alloc (.cells #[.slice A ps.length cap] 24)).alloc (.cells #[.int .i64 a, .int .i64 b, .int .i64 c, .int .i64 d, .int .i64 e] 43)) := ⟨hP0.1, hP0.2.1, hP0.2.2.1, hP0.2.2.2.1, hP0.2.2.2.2.1, hP0.2.2.2.2.2.1, trivial⟩
    exact h1.next (bel_new (Below.refl _ _) _)
  have b1 := B1.new ((w.alloc (.cells #[.slice A ps.length cap] 24)).alloc (.cells #[.int .i64 a, .int .i64 b, .int .i64 c, .int .i64 d, .int .i64 e] 43)) 24 (.slice none 0 0)
  simp only [World.size_alloc] at b1
  have K0 : HBx w (.slice A ps.length cap) a b c d e _ := ⟨b0, hP, b1, bl⟩
  clear hP0 b0 hP b1
  have hH := spec_rok A cap ps _ hn hf (hA.below bl)
  have hO : ∀ W, Calls Try.prog 56 #[.agg #[.int .i64 a, .int .i64 b, .int .i64 c, .int .i64 d, .int .i64 e]] W fun r w' => r = .returned (.bool (Cut.isOk a b c d e)) ∧ Below W.heap.size W w' := fun W => (Cut.spec_pok a b c d e W).mono fun r w' ⟨h1, h2⟩ => ⟨h1, h2 ▸ bel_new (bel_new (Below.refl _ _) _) _⟩
  have hM : ∀ W, Calls Try.prog 57 #[.agg #[.int .i64 a, .int .i64 b, .int .i64 c, .int .i64 d, .int .i64 e]] W fun r w' => r = .returned (.bool (Cut.isHole a b c d e)) ∧ Below W.heap.size W w' := fun W => (Cut.spec_hole a b c d e W).mono fun r w' ⟨h1, h2⟩ => ⟨h1, h2 ▸ bel_new (Below.refl _ _) _⟩
  by_cases hok : RsOk (dks ps)
  · rw [okR_yes hok] at hH
    cases ho : Cut.isOk a b c d e with
    | false =>
      rw [healR_bad (fun h => by have := h.2.1; rw [ho] at this; cases this)]
      simp only [ho] at hO
      clear hok hf hA ho hM bl
      go_enter Try.func25, Try.ntmps25
      go_wp2_with (go_at_call 17; refine hH.mono ?_; rintro r w2 ⟨rfl, hb2⟩; refine Hid.out ?_)
      refine Lib.hid ?_
      have K := K0.next hb2
      obtain ⟨q0, q1, q2, q3, q4, _, _⟩ := id K.2.1
      clear hH hb2 K0
      go_wp2_with (go_at_call 56; refine (hO _).mono ?_; rintro r w3 ⟨rfl, hb3⟩; obtain ⟨y0, f0⟩ := (K.next hb3).2.2.1.cells)
      exact bodyPost_ret (v := .tuple #[.agg #[.slice none 0 0], .int .i64 0, .bool false]) (by simp [results, Try.f25, go_sem, y0]) rfl ⟨[], none, 0, rfl, rfl, RKeep.none _ _ _, (K.next hb3).2.2.2.setCell (p := ⟨w.heap.size + 1 + 1, 0, none⟩) (by show w.heap.size ≤ w.heap.size + 1 + 1; omega) _⟩
    | true =>
      simp only [ho] at hO
      cases hh : Cut.isHole a b c d e with
      | true =>
        rw [healR_bad (fun h => by have := h.2.2; rw [hh] at this; cases this)]
        simp only [hh] at hM
        clear hok hf hA ho hh bl
        go_enter Try.func25, Try.ntmps25
        go_wp2_with (go_at_call 17; refine hH.mono ?_; rintro r w2 ⟨rfl, hb2⟩; refine Hid.out ?_)
        refine Lib.hid ?_
        have K := K0.next hb2
        obtain ⟨q0, q1, q2, q3, q4, _, _⟩ := id K.2.1
        clear hH hb2 K0
        go_wp2_with (go_at_call 56; refine (hO _).mono ?_; rintro r w3 ⟨rfl, hb3⟩; refine Hid.out ?_)
        refine Lib.hid ?_
        have K3 := K.next hb3
        clear q0 q1 q2 q3 q4 hb3 hO K
        obtain ⟨q0, q1, q2, q3, q4, _, _⟩ := id K3.2.1
        go_wp2_with (go_at_call 57; refine (hM _).mono ?_; rintro r w4 ⟨rfl, hb4⟩; obtain ⟨y0, f0⟩ := (K3.next hb4).2.2.1.cells)
        exact bodyPost_ret (v := .tuple #[.agg #[.slice none 0 0], .int .i64 0, .bool false]) (by simp [results, Try.f25, go_sem, y0]) rfl ⟨[], none, 0, rfl, rfl, RKeep.none _ _ _, (K3.next hb4).2.2.2.setCell (p := ⟨w.heap.size + 1 + 1, 0, none⟩) (by show w.heap.size ≤ w.heap.size + 1 + 1; omega) _⟩
      | false =>
        simp only [hh] at hM
        have hg : PtrGo a b c d e := ⟨ho, hh⟩
        have h3 : Hid (ps.length = 3) := Lib.hid (by have := hok.1; rwa [dks_len] at this)
        have hR := fun W (hW : Below w.heap.size w W) => spec_rcopy A cap ps W hn hf (hA.below hW)
        have hL0 := fun (base g k : Nat) (qs : List RD) (W : World) (hq : dks qs = dks ps) (hbase : base ≤ W.heap.size) (hO : ROwn W base (.slice (some ⟨g, 0, none⟩) qs.length k) qs) => spec_h62 base g k qs a b c d e W (by rw [hq]; exact hok) (fun q hqq => bulk_ok (rs_each hok.2 hq q hqq)) hbase hO hg
        clear hf hA ho hh bl
        by_cases hgd : GoodH (dks ps) a b c d e
        · rw [healR_yes hgd]
          obtain ⟨X, hX⟩ : ∃ X, X = putL (dks ps) a (wantR (dks ps) a b c d e) (needs (dks ps) a (wantR (dks ps) a b c d e)) := ⟨_, rfl⟩
          obtain ⟨M, hM'⟩ : ∃ M, M = ((cntV (needs (dks ps) a (wantR (dks ps) a b c d e)) 3 : Nat) : Int) := ⟨_, rfl⟩
          simp only [← hX, ← hM']
          have hL : ∀ (base g k : Nat) (qs : List RD) (W : World), dks qs = dks ps → base ≤ W.heap.size → ROwn W base (.slice (some ⟨g, 0, none⟩) qs.length k) qs → Calls Try.prog 62 #[.agg #[.slice (some ⟨g, 0, none⟩) qs.length k], .agg #[.int .i64 a, .int .i64 b, .int .i64 c, .int .i64 d, .int .i64 e]] W fun r w' => ∃ (cur : List RD) (A : Option Addr) (k : Nat), r = .returned (.tuple #[.agg #[.slice A cur.length k], .int .i64 M, .bool true]) ∧ dks cur = X ∧ RKeep w' base w'.heap.size (.slice A cur.length k) cur ∧ Below base W w' := fun base g k qs W hq hb hO => (hL0 base g k qs W hq hb hO).mono fun r w' hh' => by
            unfold H62 at hh'
            rw [hq] at hh'
            rcases hh' with ⟨_, cur, A, k, e1, hd, h1, h2⟩ | ⟨h0, _⟩
            · exact ⟨cur, A, k, by rw [e1, hM'], by rw [hd, hX], h1, h2⟩
            · exact absurd hgd h0
          clear hL0 hok hg hgd hX hM'
          go_enter Try.func25, Try.ntmps25
          go_wp2_with (go_at_call 17; refine hH.mono ?_; rintro r w2 ⟨rfl, hb2⟩; refine Hid.out ?_)
          refine Lib.hid ?_
          have K := K0.next hb2
          obtain ⟨q0, q1, q2, q3, q4, _, _⟩ := id K.2.1
          clear hH hb2 K0
          go_wp2_with (go_at_call 56; refine (hO _).mono ?_; rintro r w3 ⟨rfl, hb3⟩; refine Hid.out ?_)
          refine Lib.hid ?_
          have K3 := K.next hb3
          clear q0 q1 q2 q3 q4 hb3 hO K
          obtain ⟨q0, q1, q2, q3, q4, _, _⟩ := id K3.2.1
          go_wp2_with (go_at_call 57; refine (hM _).mono ?_; rintro r w4 ⟨rfl, hb4⟩; refine Hid.out ?_)
          refine Lib.hid ?_
          have K4 := K3.next hb4
          clear q0 q1 q2 q3 q4 hb4 hM K3
          obtain ⟨q0, q1, q2, q3, q4, _, _⟩ := id K4.2.1
          obtain ⟨x0, _⟩ := K4.1.cells
          have KD := K4.drew
          have hlt4 := K4.2.2.1.lt
          have hsz4 : w.heap.size ≤ w4.heap.size := K4.2.2.2.size
          go_wp2_with fail
          go_region_with (first
            | (go_at_call 50; refine (hR _ KD.2.2.2).mono ?_; rintro r w5 ⟨qs, A2, c2, rfl, hq, ho, hb5⟩; obtain ⟨g, rfl, hg, hgb⟩ := own_goneAt ho.1 (by rw [dks_same hq, h3.out]; decide); have L := hL w4.heap.size g c2 qs w5 hq hb5.size ho; have HQ := Lib.hid hq; have K5 := KD.next hb5; clear hq; obtain ⟨z0, z1, z2, z3, z4, _, _⟩ := id K5.2.1)
            | (go_at_call 62; refine L.mono ?_; rintro r w6 ⟨cur, A6, k6, rfl, hd, hk6, hb6⟩; have c6 := K5.2.2.1.belowB hb6 hlt4; have hlt6 : w.heap.size + 1 + 1 < w4.heap.size := hlt4; have hlo6 := hsz4; have BB6 := K5.2.2.2.trans (hb6.mono hsz4); obtain ⟨y0, f0⟩ := c6.cells))
          all_goals go_wp2_with fail
          all_goals exact bodyPost_ret (v := .tuple #[.agg #[.slice A6 cur.length k6], .int .i64 M, .bool true]) (by simp [results, Try.f25, go_sem, y0]) rfl ⟨cur, A6, k6, rfl, hd, (hk6.set (p := ⟨w.heap.size + 1 + 1, 0, none⟩) hlt6 _).wide hlo6 (Nat.le_of_eq (size_put _ _ _).symm), BB6.setCell (p := ⟨w.heap.size + 1 + 1, 0, none⟩) (by show w.heap.size ≤ w.heap.size + 1 + 1; omega) _⟩
        · rw [healR_no hgd]
          have hL : ∀ (base g k : Nat) (qs : List RD) (W : World), dks qs = dks ps → base ≤ W.heap.size → ROwn W base (.slice (some ⟨g, 0, none⟩) qs.length k) qs → Calls Try.prog 62 #[.agg #[.slice (some ⟨g, 0, none⟩) qs.length k], .agg #[.int .i64 a, .int .i64 b, .int .i64 c, .int .i64 d, .int .i64 e]] W fun r w' => r = .returned (.tuple #[.agg #[.slice none 0 0], .int .i64 0, .bool false]) ∧ Below base W w' := fun base g k qs W hq hb hO => (hL0 base g k qs W hq hb hO).mono fun r w' hh' => by
            unfold H62 at hh'
            rw [hq] at hh'
            rcases hh' with ⟨h0, _⟩ | ⟨_, e1, h2⟩
            · exact absurd h0 hgd
            · exact ⟨e1, h2⟩
          clear hL0 hok hg hgd
          go_enter Try.func25, Try.ntmps25
          go_wp2_with (go_at_call 17; refine hH.mono ?_; rintro r w2 ⟨rfl, hb2⟩; refine Hid.out ?_)
          refine Lib.hid ?_
          have K := K0.next hb2
          obtain ⟨q0, q1, q2, q3, q4, _, _⟩ := id K.2.1
          clear hH hb2 K0
          go_wp2_with (go_at_call 56; refine (hO _).mono ?_; rintro r w3 ⟨rfl, hb3⟩; refine Hid.out ?_)
          refine Lib.hid ?_
          have K3 := K.next hb3
          clear q0 q1 q2 q3 q4 hb3 hO K
          obtain ⟨q0, q1, q2, q3, q4, _, _⟩ := id K3.2.1
          go_wp2_with (go_at_call 57; refine (hM _).mono ?_; rintro r w4 ⟨rfl, hb4⟩; refine Hid.out ?_)
          refine Lib.hid ?_
          have K4 := K3.next hb4
          clear q0 q1 q2 q3 q4 hb4 hM K3
          obtain ⟨q0, q1, q2, q3, q4, _, _⟩ := id K4.2.1
          obtain ⟨x0, _⟩ := K4.1.cells
          have KD := K4.drew
          have hlt4 := K4.2.2.1.lt
          have hsz4 : w.heap.size ≤ w4.heap.size := K4.2.2.2.size
          go_wp2_with fail
          go_region_with (first
            | (go_at_call 50; refine (hR _ KD.2.2.2).mono ?_; rintro r w5 ⟨qs, A2, c2, rfl, hq, ho, hb5⟩; obtain ⟨g, rfl, hg, hgb⟩ := own_goneAt ho.1 (by rw [dks_same hq, h3.out]; decide); have L := hL w4.heap.size g c2 qs w5 hq hb5.size ho; have HQ := Lib.hid hq; have K5 := KD.next hb5; clear hq; obtain ⟨z0, z1, z2, z3, z4, _, _⟩ := id K5.2.1)
            | (go_at_call 62; refine L.mono ?_; rintro r w6 ⟨rfl, hb6⟩; have c6 := K5.2.2.1.belowB hb6 hlt4; have hlt6 : w.heap.size + 1 + 1 < w4.heap.size := hlt4; have hlo6 := hsz4; have BB6 := K5.2.2.2.trans (hb6.mono hsz4); obtain ⟨y0, f0⟩ := c6.cells))
          all_goals go_wp2_with fail
          all_goals exact bodyPost_ret (v := .tuple #[.agg #[.slice none 0 0], .int .i64 0, .bool false]) (by simp [results, Try.f25, go_sem, y0]) rfl ⟨[], none, 0, rfl, rfl, RKeep.none _ _ _, BB6.setCell (p := ⟨w.heap.size + 1 + 1, 0, none⟩) (by show w.heap.size ≤ w.heap.size + 1 + 1; omega) _⟩
  · rw [okR_no hok] at hH
    rw [healR_bad (fun h => hok h.1)]
    clear hok hf hA hO hM bl
    go_enter Try.func25, Try.ntmps25
    go_wp2_with (go_at_call 17; refine hH.mono ?_; rintro r w2 ⟨rfl, hb2⟩; obtain ⟨y0, f0⟩ := (K0.next hb2).2.2.1.cells)
    exact bodyPost_ret (v := .tuple #[.agg #[.slice none 0 0], .int .i64 0, .bool false]) (by simp [results, Try.f25, go_sem, y0]) rfl ⟨[], none, 0, rfl, rfl, RKeep.none _ _ _, (K0.next hb2).2.2.2.setCell (p := ⟨w.heap.size + 1 + 1, 0, none⟩) (by show w.heap.size ≤ w.heap.size + 1 + 1; omega) _⟩
end Go.Proofs.Ytndckncoipkhaaa
