/-
  RaidHeal, the program's.
-/
import Derived.Test.YtndckncoipkhaaaRHe
import Derived.Test.YtndckncoipkhaaaRRj
namespace Go.Proofs.Ytndckncoipkhaaa
open Go.RowKit

theorem first_fits (ys : List ByteArray) (a b c d e : Int) : ∀ k, (Cut.firstFit ys a b c d e k).2 = true → Cut.fitsB a b c d e (Cut.firstFit ys a b c d e k).1 = true
  | 0, h => by simp [Cut.firstFit] at h
  | k + 1, h => by
    unfold Cut.firstFit at h ⊢
    simp only at h ⊢
    split at h
    · rename_i h2
      rw [if_pos h2]
      exact h2.2
    · rename_i h2
      rw [if_neg h2]
      exact first_fits ys a b c d e k h
theorem read_yes {R : List Dk} {a b c d e : Int} (h : (readR R a b c d e).2 = true) : RsOk R ∧ PtrGo a b c d e ∧ (readR R a b c d e).1.size ≤ 128 := by
  by_cases hh : RsOk R ∧ PtrGo a b c d e
  · refine ⟨hh.1, hh.2, ?_⟩
    rw [readR_yes hh.1 hh.2] at h ⊢
    have hf := first_fits _ a b c d e 3 h
    rw [fits_go hh.2] at hf
    simp only [Bool.and_eq_true, beq_iff_eq] at hf
    have := hh.2.bounds.2
    omega
  · rw [readR_no hh] at h
    cases h
def wantR (R : List Dk) (a b c d e : Int) : List ByteArray := Cut.texts3 (readR R a b c d e).1.data.toList
instance (R : List Dk) (n : Int) (cs : List ByteArray) (vs : List Bool) : Decidable (PutOk R n cs vs) := by unfold PutOk; infer_instance
def GoodH (R : List Dk) (a b c d e : Int) : Prop := (readR R a b c d e).2 = true ∧ PutOk R a (wantR R a b c d e) (needs R a (wantR R a b c d e))
instance (R : List Dk) (a b c d e : Int) : Decidable (GoodH R a b c d e) := by unfold GoodH; infer_instance
def healR (R : List Dk) (a b c d e : Int) : List Dk × Int × Bool :=
  if GoodH R a b c d e then (putL R a (wantR R a b c d e) (needs R a (wantR R a b c d e)), ((cntV (needs R a (wantR R a b c d e)) 3 : Nat) : Int), true) else ([], 0, false)
theorem healR_yes {R : List Dk} {a b c d e : Int} (h : GoodH R a b c d e) : healR R a b c d e = (putL R a (wantR R a b c d e) (needs R a (wantR R a b c d e)), ((cntV (needs R a (wantR R a b c d e)) 3 : Nat) : Int), true) := if_pos h
theorem healR_no {R : List Dk} {a b c d e : Int} (h : ¬ GoodH R a b c d e) : healR R a b c d e = ([], 0, false) := if_neg h
def RPost3 (R : List Dk) (m : Int) (b : Bool) (w : World) (r : Ending) (w' : World) : Prop :=
  ∃ (ps : List RD) (A : Option Addr) (c : Nat), r = .returned (.tuple #[.agg #[.slice A ps.length c], .int .i64 m, .bool b]) ∧ dks ps = R ∧ ROwn w' w.heap.size (.slice A ps.length c) ps ∧ Below w.heap.size w w'

set_option maxRecDepth 100000 in
set_option maxHeartbeats 4000000 in
theorem impl_rheal (A : Option Addr) (cap : Nat) (ps : List RD) (a b c d e : Int) (w : World) (hn : ps.length ≤ 1048576) (hf : ∀ p ∈ ps, Bulk p.d) (hA : RAt w A ps) :
    Calls Try.prog 26 #[.agg #[.slice A ps.length cap], .agg #[.int .i64 a, .int .i64 b, .int .i64 c, .int .i64 d, .int .i64 e]] w (RPost3 (healR (dks ps) a b c d e).1 (healR (dks ps) a b c d e).2.1 (healR (dks ps) a b c d e).2.2 w) := by
  have bl : Below w.heap.size w (((w.alloc (.cells #[.slice A ps.length cap] 24)).alloc (.cells #[.int .i64 a, .int .i64 b, .int .i64 c, .int .i64 d, .int .i64 e] 43)).alloc (.cells #[.slice none 0 0] 24)) := bel_new (bel_new (bel_new (Below.refl _ _) _) _) _
  have b0 := ((B1.new w 24 (.slice A ps.length cap)).alloc (.cells #[.int .i64 a, .int .i64 b, .int .i64 c, .int .i64 d, .int .i64 e] 43)).alloc (.cells #[.slice none 0 0] 24)
  have hP0 := Cut.HP.new (w.alloc (.cells #[.slice A ps.length cap] 24)) a b c d e 43
  have hP : Hp5 (w.heap.size + 1) a b c d e (((w.alloc (.cells #[.slice A ps.length cap] 24)).alloc (.cells #[.int .i64 a, .int .i64 b, .int .i64 c, .int .i64 d, .int .i64 e] 43)).alloc (.cells #[.slice none 0 0] 24)) := by
    unfold Cut.HP at hP0
    rw [World.size_alloc] at hP0
    have h1 : Hp5 (w.heap.size + 1) a b c d e ((w.alloc (.cells #[.slice A ps.length cap] 24)).alloc (.cells #[.int .i64 a, .int .i64 b, .int .i64 c, .int .i64 d, .int .i64 e] 43)) := ⟨hP0.1, hP0.2.1, hP0.2.2.1, hP0.2.2.2.1, hP0.2.2.2.2.1, hP0.2.2.2.2.2.1, trivial⟩
    exact h1.next (bel_new (Below.refl _ _) _)
  have b1 := B1.new ((w.alloc (.cells #[.slice A ps.length cap] 24)).alloc (.cells #[.int .i64 a, .int .i64 b, .int .i64 c, .int .i64 d, .int .i64 e] 43)) 24 (.slice none 0 0)
  simp only [World.size_alloc] at b1
  have hH := impl_rread A cap ps a b c d e _ hn hf (hA.below bl)
  unfold ReadPost at hH
  clear hP0
  cases hr : (readR (dks ps) a b c d e).2 with
  | false =>
    rw [healR_no (fun h => by have := h.1; rw [hr] at this; cases this)]
    rw [hr] at hH
    clear hn hf hA hr
    go_enter Try.func26, Try.ntmps26
    go_wp2_with (go_at_call 24; refine hH.mono ?_; rintro r w2 ⟨rfl, hb2⟩; obtain ⟨y0, f0⟩ := (b1.below hb2).cells)
    exact bodyPost_ret (v := .tuple #[.agg #[.slice none 0 0], .int .i64 0, .bool false]) (by simp [results, Try.f26, go_sem, y0]) rfl ⟨[], none, 0, rfl, rfl, ROwn.none _ _, (bel_then bl hb2).setCell (p := ⟨w.heap.size + 1 + 1, 0, none⟩) (by show w.heap.size ≤ w.heap.size + 1 + 1; omega) _⟩
  | true =>
    obtain ⟨hok, hg, hsz⟩ := read_yes hr
    obtain ⟨ha, _⟩ := hg.bounds
    obtain ⟨n, hna⟩ : ∃ n : Nat, a = (n : Int) := ⟨a.toNat, by omega⟩
    subst hna
    have hW := fun W (hW : Below w.heap.size w W) pb h1 h2 => impl_heals A cap ps n (readR (dks ps) n b c d e).1 pb W hok hf (hA.below hW) hsz (by omega) h1 h2
    obtain ⟨t, ht⟩ : ∃ t, t = (readR (dks ps) n b c d e).1 := ⟨_, rfl⟩
    have hcs : Cut.texts3 t.data.toList = wantR (dks ps) n b c d e := by rw [ht]; rfl
    simp only [← ht] at hW hH
    rw [hr] at hH
    by_cases hput : PutOk (dks ps) n (wantR (dks ps) n b c d e) (needs (dks ps) n (wantR (dks ps) n b c d e))
    · rw [healR_yes ⟨hr, hput⟩]
      obtain ⟨X, hX⟩ : ∃ X, X = putL (dks ps) n (wantR (dks ps) n b c d e) (needs (dks ps) n (wantR (dks ps) n b c d e)) := ⟨_, rfl⟩
      obtain ⟨M, hM⟩ : ∃ M, M = ((cntV (needs (dks ps) n (wantR (dks ps) n b c d e)) 3 : Nat) : Int) := ⟨_, rfl⟩
      have hW2 : ∀ W, Below w.heap.size w W → ∀ pb, pb < W.heap.size → W.cell? ⟨pb, 0, none⟩ = some (.int .i64 (n : Int)) → Calls Try.prog 54 #[.agg #[.slice A ps.length cap], .int .i64 (n : Int), .string t, .func (.func 63) #[] #[.pointer (some ⟨pb, 0, none⟩)]] W fun r w' => ∃ (cur : List RD) (A : Option Addr) (c : Nat), r = .returned (.tuple #[.agg #[.slice A cur.length c], .int .i64 M, .bool true]) ∧ dks cur = X ∧ ROwn w' W.heap.size (.slice A cur.length c) cur ∧ Below W.heap.size W w' := fun W h pb h1 h2 => (hW W h pb h1 h2).mono fun r w' hh => by
        rw [hcs] at hh
        rcases hh with ⟨_, cur, A, c, e, hd, h1, h2⟩ | ⟨h0, _⟩
        · exact ⟨cur, A, c, by rw [e, hM], by rw [hd, hX], h1, h2⟩
        · exact absurd hput h0
      simp only [← hX, ← hM]
      clear hf hA hok hput hW hX hM hcs ht hr hg hsz
      go_enter Try.func26, Try.ntmps26
      go_wp2_with (go_at_call 24; refine hH.mono ?_; rintro r w2 ⟨rfl, hb2⟩; refine Hid.out ?_)
      refine Lib.hid ?_
      have c0 := b0.below hb2
      have c1 := b1.below hb2
      have hP := hP.next hb2
      have BB := bel_then bl hb2
      clear hH hb2 b0 b1 bl
      obtain ⟨x0, _⟩ := c0.cells
      obtain ⟨q0, q1, q2, q3, q4, hpl, _⟩ := id hP
      have L := hW2 _ BB _ hpl q0
      clear hW2
      go_wp2_with (go_at_call 54; refine L.mono ?_; rintro r w3 ⟨qs, A2, c2, rfl, hq, ho, hb3⟩; refine Hid.out ?_)
      refine Lib.hid ?_
      have c3 := c1.below hb3
      have B3 := bel_then BB hb3
      have hlt := c1.lt
      have sz := BB.size
      obtain ⟨y0, f0⟩ := c3.cells
      clear x0 c0 L hb3 c1 BB q0 q1 q2 q3 q4
      go_wp2_with fail
      exact bodyPost_ret (v := .tuple #[.agg #[.slice A2 qs.length c2], .int .i64 M, .bool true]) (by simp [results, Try.f26, go_sem, y0]) rfl ⟨qs, A2, c2, rfl, hq, (ho.set (p := ⟨w.heap.size + 1 + 1, 0, none⟩) hlt _).base sz, B3.setCell (p := ⟨w.heap.size + 1 + 1, 0, none⟩) (by show w.heap.size ≤ w.heap.size + 1 + 1; omega) _⟩
    · rw [healR_no (fun h => hput h.2)]
      have hW2 : ∀ W, Below w.heap.size w W → ∀ pb, pb < W.heap.size → W.cell? ⟨pb, 0, none⟩ = some (.int .i64 (n : Int)) → Calls Try.prog 54 #[.agg #[.slice A ps.length cap], .int .i64 (n : Int), .string t, .func (.func 63) #[] #[.pointer (some ⟨pb, 0, none⟩)]] W fun r w' => r = .returned (.tuple #[.agg #[.slice none 0 0], .int .i64 0, .bool false]) ∧ Below W.heap.size W w' := fun W h pb h1 h2 => (hW W h pb h1 h2).mono fun r w' hh => by
        rw [hcs] at hh
        rcases hh with ⟨h0, _⟩ | ⟨_, e, hb⟩
        · exact absurd h0 hput
        · exact ⟨e, hb⟩
      clear hf hA hok hput hW hcs ht hr hg hsz
      go_enter Try.func26, Try.ntmps26
      go_wp2_with (go_at_call 24; refine hH.mono ?_; rintro r w2 ⟨rfl, hb2⟩; refine Hid.out ?_)
      refine Lib.hid ?_
      have c0 := b0.below hb2
      have c1 := b1.below hb2
      have hP := hP.next hb2
      have BB := bel_then bl hb2
      clear hH hb2 b0 b1 bl
      obtain ⟨x0, _⟩ := c0.cells
      obtain ⟨q0, q1, q2, q3, q4, hpl, _⟩ := id hP
      have L := hW2 _ BB _ hpl q0
      clear hW2
      go_wp2_with (go_at_call 54; refine L.mono ?_; rintro r w3 ⟨rfl, hb3⟩; refine Hid.out ?_)
      refine Lib.hid ?_
      have c3 := c1.below hb3
      have B3 := bel_then BB hb3
      obtain ⟨y0, f0⟩ := c3.cells
      clear x0 c0 L hb3 c1 BB q0 q1 q2 q3 q4
      go_wp2_with fail
      exact bodyPost_ret (v := .tuple #[.agg #[.slice none 0 0], .int .i64 0, .bool false]) (by simp [results, Try.f26, go_sem, y0]) rfl ⟨[], none, 0, rfl, rfl, ROwn.none _ _, B3.setCell (p := ⟨w.heap.size + 1 + 1, 0, none⟩) (by show w.heap.size ≤ w.heap.size + 1 + 1; omega) _⟩
end Go.Proofs.Ytndckncoipkhaaa
