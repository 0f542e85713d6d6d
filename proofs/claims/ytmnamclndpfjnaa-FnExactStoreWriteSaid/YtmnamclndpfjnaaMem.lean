/-
  Space in memory: its weight, a copy, whether two are equal, the marks of a law.
-/
import Derived.Test.YtmnamclndpfjnaaIn
import Derived.Test.YtmnamclndpfjnaaSp
namespace Go.Proofs.Ytmnamclndpfjnaa
open Go.RowKit

/-- s lies behind two slice addresses. -/
def SpAt (w : World) (A B : Option Addr) (s : Sp) : Prop := Lies w A (intCells s.refs) ∧ Lies w B (intCells s.last)
theorem SpAt.below {w w' : World} {A B : Option Addr} {s : Sp} (h : SpAt w A B s) (hb : Below w.heap.size w w') : SpAt w' A B s := ⟨h.1.below hb, h.2.below hb⟩
/-- s lies in memory of the call's own. -/
def SpOwn (w : World) (base : Nat) (v : Value) (s : Sp) : Prop :=
  ∃ (u1 u2 : Value), v = .agg #[u1, u2] ∧ w.ownsRow base 3 1 u1 s.refs.length (intCells s.refs) ∧ w.ownsRow base 3 1 u2 s.last.length (intCells s.last) ∧ ∀ k, u1.ownBlock = some k → u2.ownBlock ≠ some k
theorem SpOwn.below {w w' : World} {base : Nat} {v : Value} {s : Sp} (h : SpOwn w base v s) (hb : Below w.heap.size w w') : SpOwn w' base v s := by
  obtain ⟨u1, u2, e, h1, h2, h3⟩ := h
  exact ⟨u1, u2, e, own_bel h1 hb, own_bel h2 hb, h3⟩
theorem SpOwn.base {w : World} {base base' : Nat} {v : Value} {s : Sp} (h : SpOwn w base v s) (hb : base' ≤ base) : SpOwn w base' v s := by
  obtain ⟨u1, u2, e, h1, h2, h3⟩ := h
  exact ⟨u1, u2, e, own_base h1 hb, own_base h2 hb, h3⟩
theorem SpOwn.at_ {w : World} {base : Nat} {v : Value} {s : Sp} (h : SpOwn w base v s) : ∃ A c B e, v = .agg #[.slice A s.refs.length c, .slice B s.last.length e] ∧ SpAt w A B s := by
  obtain ⟨u1, u2, rfl, h1, h2, _⟩ := h
  obtain ⟨A, c, rfl, l1⟩ := own_lies h1
  obtain ⟨B, e, rfl, l2⟩ := own_lies h2
  exact ⟨A, c, B, e, rfl, l1, l2⟩
theorem SpOwn.lies {w : World} {base : Nat} {A B : Option Addr} {c e : Nat} {s : Sp} (h : SpOwn w base (.agg #[.slice A s.refs.length c, .slice B s.last.length e]) s) : SpAt w A B s := by
  obtain ⟨A', c', B', e', hv, h'⟩ := h.at_
  simp only [Value.agg.injEq, Array.mk.injEq, List.cons.injEq, Value.slice.injEq, and_true, true_and] at hv
  obtain ⟨⟨rfl, rfl⟩, rfl, rfl⟩ := hv
  exact h'
theorem SpOwn.set {W : World} {base : Nat} {v : Value} {s : Sp} (h : SpOwn W base v s) {p : Addr} (hp : p.block < base) (u : Value) : SpOwn (W.setCell p u) base v s := by
  obtain ⟨u1, u2, e, h1, h2, h3⟩ := h
  exact ⟨u1, u2, e, own_set h1 hp u, own_set h2 hp u, h3⟩
/-- .. below a block. -/
def SpIn (w : World) (base top : Nat) (v : Value) (s : Sp) : Prop :=
  ∃ (u1 u2 : Value), v = .agg #[u1, u2] ∧ (w.ownsRow base 3 1 u1 s.refs.length (intCells s.refs) ∧ ∀ k, u1.ownBlock = some k → k < top) ∧ (w.ownsRow base 3 1 u2 s.last.length (intCells s.last) ∧ ∀ k, u2.ownBlock = some k → k < top) ∧ ∀ k, u1.ownBlock = some k → u2.ownBlock ≠ some k
theorem SpOwn.in_ {w : World} {base : Nat} {v : Value} {s : Sp} (h : SpOwn w base v s) : SpIn w base w.heap.size v s := by
  obtain ⟨u1, u2, e, h1, h2, h3⟩ := h
  exact ⟨u1, u2, e, ⟨h1, fun k hk => (h1.lt k hk).2⟩, ⟨h2, fun k hk => (h2.lt k hk).2⟩, h3⟩
theorem SpIn.own {w : World} {base top : Nat} {v : Value} {s : Sp} (h : SpIn w base top v s) : SpOwn w base v s := by
  obtain ⟨u1, u2, e, h1, h2, h3⟩ := h
  exact ⟨u1, u2, e, h1.1, h2.1, h3⟩
theorem SpIn.below {w w' : World} {base top : Nat} {v : Value} {s : Sp} (h : SpIn w base top v s) (hb : Below w.heap.size w w') : SpIn w' base top v s := by
  obtain ⟨u1, u2, e, h1, h2, h3⟩ := h
  exact ⟨u1, u2, e, ⟨own_bel h1.1 hb, h1.2⟩, ⟨own_bel h2.1 hb, h2.2⟩, h3⟩
theorem SpIn.only {w w' : World} {lo hi base top : Nat} {v : Value} {s : Sp} (h : SpIn w base top v s) (hg : Only lo hi w w') (hb : hi ≤ base ∨ top ≤ lo) : SpIn w' base top v s := by
  obtain ⟨u1, u2, e, h1, h2, h3⟩ := h
  exact ⟨u1, u2, e, ⟨own_only h1.1 hg (fun k hk => by have := (h1.1.lt k hk).1; have := h1.2 k hk; omega), h1.2⟩, ⟨own_only h2.1 hg (fun k hk => by have := (h2.1.lt k hk).1; have := h2.2 k hk; omega), h2.2⟩, h3⟩

/-- A space is returned, in memory of the call's own. -/
def SPost (s : Sp) (w : World) (r : Ending) (w' : World) : Prop :=
  ∃ A c B e, r = .returned (.agg #[.slice A s.refs.length c, .slice B s.last.length e]) ∧ SpOwn w' w.heap.size (.agg #[.slice A s.refs.length c, .slice B s.last.length e]) s ∧ Below w.heap.size w w'
/-- A space and a bool are returned. -/
def SPost2 (s : Sp) (b : Bool) (w : World) (r : Ending) (w' : World) : Prop :=
  ∃ A c B e, r = .returned (.tuple #[.agg #[.slice A s.refs.length c, .slice B s.last.length e], .bool b]) ∧ SpOwn w' w.heap.size (.agg #[.slice A s.refs.length c, .slice B s.last.length e]) s ∧ Below w.heap.size w w'
theorem noS_own (w : World) (base : Nat) : SpOwn w base (.agg #[.slice none 0 0, .slice none 0 0]) noS :=
  ⟨_, _, rfl, ⟨rfl, .inl ⟨rfl, rfl⟩⟩, ⟨rfl, .inl ⟨rfl, rfl⟩⟩, fun k hk => by cases hk⟩

set_option maxHeartbeats 1000000 in
theorem sz_space (A B : Option Addr) (c e n m : Nat) (L : Int) (w : World) (hL0 : 0 ≤ L) (hL : L ≤ 1048576) (hn : n ≤ maxLen) (hm : m ≤ maxLen) :
    Calls Try.prog 46 #[.agg #[.slice A n c, .slice B m e], .int .i64 L] w (SzPost (n + m) L w) := by
  have hS := fun W => sz_ints A c n L W hL0 hL hn
  have hT := fun L2 W h1 h2 => sz_ints B e m L2 W h1 h2 hm
  clear hn hm
  go_enter Try.func46, Try.ntmps46
  go_wp2_with (go_at_call 83; refine (hS _).mono ?_; rintro r w2 ⟨z, rfl, hb2, hz⟩; have B2 := bel_then (bel_new (Below.refl _ _) _) hb2; obtain ⟨hc, hf⟩ := bcell hb2; refine Hid.out ?_)
  refine Lib.hid ?_
  by_cases hzz : z < 0
  · go_wp2_with fail
    go_ret
    exact ⟨_, rfl, B2, by intro h; omega⟩
  · have hT2 := fun W => hT z W (by omega) (by have := hz (by omega); omega)
    go_wp2_with (go_at_call 83; refine (hT2 _).mono ?_; rintro r w3 ⟨y, rfl, hb3, hy⟩; have B3 := bel_then B2 hb3; refine Hid.out ?_)
    refine Lib.hid ?_
    by_cases hyy : y < 0
    · go_wp2_with fail
      go_ret
      exact ⟨_, rfl, B3, by intro h; omega⟩
    · go_wp2_with fail
      go_ret
      exact ⟨_, rfl, B3, by intro h; have := hz (by omega); have := hy (by omega); omega⟩

set_option maxHeartbeats 1000000 in
theorem to_space (A B : Option Addr) (c e : Nat) (s : Sp) (w : World) (hn : s.refs.length ≤ 1048576) (hm : s.last.length ≤ 1048576) (hA : SpAt w A B s) :
    Calls Try.prog 53 #[.agg #[.slice A s.refs.length c, .slice B s.last.length e]] w (SPost s w) := by
  have hS := fun W hW => to_ints A c s.refs W hn (hA.1.below (w' := W) hW)
  have hT := fun W hW => to_ints B e s.last W hm (hA.2.below (w' := W) hW)
  go_enter Try.func53, Try.ntmps53
  go_wp2_with (first
    | (go_at_call 85; ((with_reducible refine (hS _ (bel_new (bel_new (bel_new (Below.refl _ _) _) _) _)).mono ?_); rintro r w2 ⟨g, rfl, ho, hb2⟩; have B2 := bel_then (bel_new (bel_new (bel_new (Below.refl _ _) _) _) _) hb2; obtain ⟨hc, hf⟩ := bcell hb2; have s2 : w.heap.size + 1 + 1 + 1 ≤ w2.heap.size := (by have := hb2.size; simpa using this); have q0 : w.heap.size < w2.heap.size := (by omega); have q1 : w.heap.size + 1 < w2.heap.size := (by omega); have q2 : w.heap.size + 1 + 1 < w2.heap.size := (by omega)))
    | (go_at_call 85; refine (hT _ (B2.setCell (p := ⟨w.heap.size + 1 + 1, 0, none⟩) (by show w.heap.size ≤ w.heap.size + 1 + 1; omega) _)).mono ?_; rintro r w3 ⟨g2, rfl, ho2, hb3⟩; have glt := (ho.lt g rfl).2; have ho3 := own_base (base' := w.heap.size + 1 + 1 + 1) (own_bel (own_set (p := ⟨w.heap.size + 1 + 1, 0, none⟩) ho (by simp) _) hb3) (by simp); rw [size_set] at ho2; have glt2 := (ho2.lt g2 rfl).1; have ho4 := own_base (base' := w.heap.size + 1 + 1 + 1) ho2 s2; have B3 := bel_then (B2.setCell (p := ⟨w.heap.size + 1 + 1, 0, none⟩) (by show w.heap.size ≤ w.heap.size + 1 + 1; omega) _) hb3; obtain ⟨hc3, hf3⟩ := bcell hb3; rw [size_set] at hc3 hf3))
  have fin : ∀ {W : World} {tt : TypeId} {sz n : Nat} {v : Value} {xs : List Value}, W.ownsRow (w.heap.size + 1 + 1 + 1) tt sz v n xs → ∀ a c d : Value, (((W.setCell ⟨w.heap.size + 1 + 1, 1, none⟩ a).setCell ⟨w.heap.size + 1, 0, none⟩ c).setCell ⟨w.heap.size + 1, 1, none⟩ d).ownsRow w.heap.size tt sz v n xs := fun h a c d =>
    own_base (own_set (own_set (own_set h (by show w.heap.size + 1 + 1 < _; omega) _) (by show w.heap.size + 1 < _; omega) _) (by show w.heap.size + 1 < _; omega) _) (by omega)
  refine bodyPost_ret (v := .agg #[.slice (some ⟨g, 0, none⟩) s.refs.length s.refs.length, .slice (some ⟨g2, 0, none⟩) s.last.length s.last.length]) (by simp [results, Try.f53, go_sem, *]) rfl ⟨_, _, _, _, rfl, ⟨_, _, rfl, fin ho3 _ _ _, fin ho4 _ _ _, fun k h1 h2 => ?_⟩, ?_⟩
  · simp only [Value.ownBlock, Option.some.injEq] at h1 h2
    omega
  · exact ((B3.setCell (by show w.heap.size ≤ w.heap.size + 1 + 1; omega) _).setCell (by show w.heap.size ≤ w.heap.size + 1; omega) _).setCell (by show w.heap.size ≤ w.heap.size + 1; omega) _

set_option maxHeartbeats 1000000 in
theorem eq_space (A B A2 B2 : Option Addr) (c e c2 e2 : Nat) (s : Sp) (w : World) (hn : s.refs.length ≤ 1048576) (hm : s.last.length ≤ 1048576) (h1 : SpAt w A B s) (h2 : SpAt w A2 B2 s) :
    Calls Try.prog 37 #[.agg #[.slice A s.refs.length c, .slice B s.last.length e], .agg #[.slice A2 s.refs.length c2, .slice B2 s.last.length e2]] w fun r w' => r = .returned (.bool true) ∧ Below w.heap.size w w' := by
  have hS := fun W hW => eq_ints A A2 c c2 s.refs W hn (h1.1.below (w' := W) hW) (h2.1.below hW)
  have hT := fun W hW => eq_ints B B2 e e2 s.last W hm (h1.2.below (w' := W) hW) (h2.2.below hW)
  obtain ⟨n, hn'⟩ : ∃ n, n = s.refs.length := ⟨_, rfl⟩
  obtain ⟨m, hm'⟩ : ∃ m, m = s.last.length := ⟨_, rfl⟩
  rw [← hn'] at hS ⊢
  rw [← hm'] at hT ⊢
  clear hn hm hn' hm' h1 h2
  go_enter Try.func37, Try.ntmps37
  go_wp2_with (first
    | (go_at_call 79; ((with_reducible refine (hS _ (bel_new (bel_new (Below.refl _ _) _) _)).mono ?_); rintro r w2 ⟨rfl, hb2⟩; have B2 := bel_then (bel_new (bel_new (Below.refl _ _) _) _) hb2; obtain ⟨hc, hf⟩ := bcell hb2))
    | (go_at_call 79; refine (hT _ B2).mono ?_; rintro r w3 ⟨rfl, hb3⟩; have B3 := bel_then B2 hb3))
  go_ret
  exact ⟨rfl, B3⟩

theorem eq_own {w : World} {b1 b2 : Nat} {A B A2 B2 : Option Addr} {c e c2 e2 : Nat} {s : Sp} (hn : s.refs.length ≤ 1048576) (hm : s.last.length ≤ 1048576) (h1 : SpOwn w b1 (.agg #[.slice A s.refs.length c, .slice B s.last.length e]) s) (h2 : SpOwn w b2 (.agg #[.slice A2 s.refs.length c2, .slice B2 s.last.length e2]) s) :
    Calls Try.prog 37 #[.agg #[.slice A s.refs.length c, .slice B s.last.length e], .agg #[.slice A2 s.refs.length c2, .slice B2 s.last.length e2]] w fun r w' => r = .returned (.bool true) ∧ Below w.heap.size w w' :=
  eq_space A B A2 B2 c e c2 e2 s w hn hm h1.lies h2.lies

/-- A space with its marks. -/
def markS (s : Sp) : Sp := ⟨marks 1 s.refs.length, marks (1 + (s.refs.length : Int)) s.last.length⟩
theorem markS_1 (s : Sp) : (markS s).refs.length = s.refs.length := by simp [markS, marks_len]
theorem markS_2 (s : Sp) : (markS s).last.length = s.last.length := by simp [markS, marks_len]

set_option maxHeartbeats 1000000 in
theorem mark_space (base top : Nat) (A B : Option Addr) (c e : Nat) (s : Sp) (w : World) (hn : s.refs.length ≤ 1048576) (hm : s.last.length ≤ 1048576) (htop : top ≤ w.heap.size) (h : SpIn w base top (.agg #[.slice A s.refs.length c, .slice B s.last.length e]) s) :
    Calls Try.prog 40 #[.agg #[.slice A s.refs.length c, .slice B s.last.length e], .int .i64 1] w fun r w' => r = .returned (.int .i64 (1 + (s.refs.length : Int) + (s.last.length : Int))) ∧ SpIn w' base top (.agg #[.slice A s.refs.length c, .slice B s.last.length e]) (markS s) ∧ Only base top w w' := by
  obtain ⟨u1, u2, e0, ⟨h1, t1⟩, ⟨h2, t2⟩, hne⟩ := h
  simp only [Value.agg.injEq, Array.mk.injEq, List.cons.injEq, and_true] at e0
  obtain ⟨rfl, rfl⟩ := e0
  have hS := fun W hW => mark_ints base A c s.refs 1 W (by omega) (by omega) hW
  have hT := fun W hW => mark_ints base B e s.last (1 + (s.refs.length : Int)) W (by omega) (by omega) hW
  have r1 : ∀ k, (Value.slice A s.refs.length c).ownBlock = some k → base ≤ k ∧ k < top := fun k hk => ⟨(h1.lt k hk).1, t1 k hk⟩
  have r2 : ∀ k, (Value.slice B s.last.length e).ownBlock = some k → base ≤ k ∧ k < top := fun k hk => ⟨(h2.lt k hk).1, t2 k hk⟩
  have f1 : ∀ k, (Value.slice A s.refs.length c).ownBlock = some k → k < w.heap.size := fun k hk => (h1.lt k hk).2
  have hne1 : (Value.slice B s.last.length e).ownBlock = none ∨ (Value.slice B s.last.length e).ownBlock ≠ (Value.slice A s.refs.length c).ownBlock := by
    cases e1 : (Value.slice A s.refs.length c).ownBlock with
    | none =>
      cases e2 : (Value.slice B s.last.length e).ownBlock with
      | none => exact .inl rfl
      | some k => exact .inr (by simp)
    | some k => exact .inr (hne k e1)
  have hne2 : (Value.slice A s.refs.length c).ownBlock = none ∨ (Value.slice A s.refs.length c).ownBlock ≠ (Value.slice B s.last.length e).ownBlock := by
    cases e1 : (Value.slice A s.refs.length c).ownBlock with
    | none => exact .inl rfl
    | some k => exact .inr fun e2 => hne k e1 e2.symm
  have fin : ∀ W : World, W.ownsRow base 3 1 (.slice A s.refs.length c) s.refs.length (intCells (marks 1 s.refs.length)) → W.ownsRow base 3 1 (.slice B s.last.length e) s.last.length (intCells (marks (1 + (s.refs.length : Int)) s.last.length)) → SpIn W base top (.agg #[.slice A s.refs.length c, .slice B s.last.length e]) (markS s) := fun W k1 k2 =>
    ⟨_, _, rfl, ⟨by rw [markS_1]; exact k1, t1⟩, ⟨by rw [markS_2]; exact k2, t2⟩, hne⟩
  have FIN := Lib.hid fin
  have HNE := Lib.hid hne1
  have HNE2 := Lib.hid hne2
  clear fin hne hne1 hne2
  go_enter Try.func40, Try.ntmps40
  go_wp2_with (first
    | (go_at_call 81
       ((with_reducible refine (hS _ (h1.alloc _)).mono ?_)
        rintro r w2 ⟨rfl, o1, g1⟩
        have o2 := (h2.alloc _).kept g1 HNE.out
        have hc : ∀ o, w2.cell? ⟨w.heap.size, o, none⟩ = (w.alloc _).cell? ⟨w.heap.size, o, none⟩ := fun o => World.cell?_of_block (g1.block w.heap.size (by simp) (fun e => absurd (f1 _ e.symm) (Nat.lt_irrefl _)))))
    | (go_at_call 81
       refine (hT _ o2).mono ?_
       rintro r w3 ⟨rfl, o3, g3⟩))
  go_ret
  exact ⟨rfl, FIN.out _ (o1.kept g3 HNE2.out) o3, (Only.of_below (bel_new (Below.refl _ _) _)).trans ((Only.of_grown g1 r1).trans (Only.of_grown g3 r2))⟩

set_option maxHeartbeats 1000000 in
theorem held_space (base : Nat) (A B : Option Addr) (c e : Nat) (s : Sp) (w : World) (hn : s.refs.length ≤ 1048576) (hm : s.last.length ≤ 1048576) (h : SpOwn w base (.agg #[.slice A s.refs.length c, .slice B s.last.length e]) (markS s)) :
    Calls Try.prog 43 #[.agg #[.slice A s.refs.length c, .slice B s.last.length e], .int .i64 1] w fun r w' => r = .returned (.int .i64 (1 + (s.refs.length : Int) + (s.last.length : Int))) ∧ Below w.heap.size w w' := by
  have hl := SpOwn.lies (s := markS s) (A := A) (B := B) (c := c) (e := e) (base := base) (w := w) (by rw [markS_1, markS_2]; exact h)
  have hS := fun W hW => held_ints A c s.refs.length 1 W (by omega) (by omega) (hl.1.below (w' := W) hW)
  have hT := fun W hW => held_ints B e s.last.length (1 + (s.refs.length : Int)) W (by omega) (by omega) (hl.2.below (w' := W) hW)
  have nn1 : ¬ (1 + (s.refs.length : Int)) < 0 := by omega
  have nn2 : ¬ (1 + (s.refs.length : Int) + (s.last.length : Int)) < 0 := by omega
  clear h hl
  go_enter Try.func43, Try.ntmps43
  go_wp2_with (first
    | (go_at_call 82; ((with_reducible refine (hS _ (bel_new (Below.refl _ _) _)).mono ?_); rintro r w2 ⟨rfl, rfl⟩))
    | (go_at_call 82; refine (hT _ (bel_new (Below.refl _ _) _)).mono ?_; rintro r w3 ⟨rfl, rfl⟩))
  go_ret
  exact ⟨rfl, bel_new (Below.refl _ _) _⟩
end Go.Proofs.Ytmnamclndpfjnaa
