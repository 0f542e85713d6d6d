/-
  The marks that a law writes into a whole disk.
-/
import Derived.Test.YtadgknkheachaaaMarkW
namespace Go.Proofs.Ytadgknkheachaaa
open Go.RowKit

/-- Of what was there, nothing has turned but blocks from lo on, below hi. -/
structure Only (lo hi : Nat) (a w : World) : Prop where
  os : w.os = a.os
  tape : w.tape = a.tape
  output : w.output = a.output
  size : a.heap.size ≤ w.heap.size
  block : ∀ k, k < a.heap.size → ¬ (lo ≤ k ∧ k < hi) → w.heap[k]? = a.heap[k]?
theorem Only.of_below {lo hi : Nat} {a w : World} (h : Below a.heap.size a w) : Only lo hi a w := ⟨h.os, h.tape, h.output, h.size, fun k hk _ => h.block k hk⟩
theorem Only.of_grown {lo hi : Nat} {a w : World} {r : Option Nat} (h : a.grownBy w r) (hr : ∀ k, r = some k → lo ≤ k ∧ k < hi) : Only lo hi a w :=
  ⟨h.os, h.tape, h.output, h.size, fun k hk hn => h.block k hk (fun e => hn (hr k e.symm))⟩
theorem Only.trans {lo hi : Nat} {a b c : World} (h : Only lo hi a b) (k : Only lo hi b c) : Only lo hi a c :=
  ⟨k.os.trans h.os, k.tape.trans h.tape, k.output.trans h.output, Nat.le_trans h.size k.size, fun i hi hn => (k.block i (Nat.lt_of_lt_of_le hi h.size) hn).trans (h.block i hi hn)⟩
theorem Only.below {lo hi B : Nat} {a w : World} (h : Only lo hi a w) (hB : B ≤ lo) (hs : B ≤ a.heap.size) : Below B a w :=
  ⟨h.os, h.tape, h.output, h.size, fun k hk => h.block k (Nat.lt_of_lt_of_le hk hs) (fun e => by omega)⟩

def DkIn (w : World) (base top : Nat) (v : Value) (d : Dk) : Prop :=
  ∃ (t : TypeId) (u1 u2 : Value), v = .agg #[u1, u2, .bool d.gone] ∧ (t = 9 ∨ t = 60) ∧ (w.ownsRow base t 1 u1 d.cells.length (strCells d.cells) ∧ ∀ k, u1.ownBlock = some k → k < top) ∧ (w.ownsRow base 58 2 u2 d.waits.length (wtCells d.waits) ∧ ∀ k, u2.ownBlock = some k → k < top)
theorem DkOwn.in_ {w : World} {base : Nat} {v : Value} {d : Dk} (h : DkOwn w base v d) : DkIn w base w.heap.size v d := by
  obtain ⟨t, u1, u2, e, ht, h1, h2⟩ := h
  exact ⟨t, u1, u2, e, ht, ⟨h1, fun k hk => (h1.lt k hk).2⟩, ⟨h2, fun k hk => (h2.lt k hk).2⟩⟩
theorem DkIn.own {w : World} {base top : Nat} {v : Value} {d : Dk} (h : DkIn w base top v d) : DkOwn w base v d := by
  obtain ⟨t, u1, u2, e, ht, h1, h2⟩ := h
  exact ⟨t, u1, u2, e, ht, h1.1, h2.1⟩
theorem DkIn.below {w w' : World} {base top : Nat} {v : Value} {d : Dk} (h : DkIn w base top v d) (hb : Below w.heap.size w w') : DkIn w' base top v d := by
  obtain ⟨t, u1, u2, e, ht, h1, h2⟩ := h
  exact ⟨t, u1, u2, e, ht, ⟨own_bel h1.1 hb, h1.2⟩, ⟨own_bel h2.1 hb, h2.2⟩⟩
theorem own_only {w w' : World} {lo hi base : Nat} {t : TypeId} {sz n : Nat} {v : Value} {xs : List Value} (h : w.ownsRow base t sz v n xs) (hg : Only lo hi w w') (hne : ∀ k, v.ownBlock = some k → ¬ (lo ≤ k ∧ k < hi)) : w'.ownsRow base t sz v n xs := by
  refine ⟨h.1, ?_⟩
  rcases h.2 with hn | ⟨g, cap, cur, rfl, hb, hgg, rest⟩
  · exact .inl hn
  · refine .inr ⟨g, cap, cur, rfl, hb, ?_, rest⟩
    rw [hg.block g (Array.getElem?_eq_some_iff.1 hgg).1 (hne g rfl)]
    exact hgg
theorem DkOwn.only {w w' : World} {lo hi base : Nat} {v : Value} {d : Dk} (h : DkOwn w base v d) (hg : Only lo hi w w') (hb : hi ≤ base) : DkOwn w' base v d := by
  obtain ⟨t, u1, u2, e, ht, h1, h2⟩ := h
  exact ⟨t, u1, u2, e, ht, own_only h1 hg (fun k hk => by have := (h1.lt k hk).1; omega), own_only h2 hg (fun k hk => by have := (h2.lt k hk).1; omega)⟩
theorem DkIn.only {w w' : World} {lo hi base top : Nat} {v : Value} {d : Dk} (h : DkIn w base top v d) (hg : Only lo hi w w') (hb : hi ≤ base ∨ top ≤ lo) : DkIn w' base top v d := by
  obtain ⟨t, u1, u2, e, ht, h1, h2⟩ := h
  exact ⟨t, u1, u2, e, ht, ⟨own_only h1.1 hg (fun k hk => by have := (h1.1.lt k hk).1; have := h1.2 k hk; omega), h1.2⟩, ⟨own_only h2.1 hg (fun k hk => by have := (h2.1.lt k hk).1; have := h2.2 k hk; omega), h2.2⟩⟩
theorem own_ne {w : World} {b1 b2 : Nat} {t1 t2 : TypeId} {s1 s2 n1 n2 : Nat} {v1 v2 : Value} {x1 x2 : List Value} (h1 : w.ownsRow b1 t1 s1 v1 n1 x1) (h2 : w.ownsRow b2 t2 s2 v2 n2 x2) (hne : t1 ≠ t2) : v2.ownBlock = none ∨ v2.ownBlock ≠ v1.ownBlock := by
  rcases h2.2 with ⟨rfl, _⟩ | ⟨g, cap, cur, rfl, hb, hgg, rest⟩
  · exact .inl rfl
  · refine .inr ?_
    rcases h1.2 with ⟨rfl, _⟩ | ⟨g', cap', cur', rfl, hb', hgg', rest'⟩
    · simp [Value.ownBlock]
    · intro e
      simp only [Value.ownBlock, Option.some.injEq] at e
      subst e
      rw [hgg] at hgg'
      injection hgg' with hgg'
      injection hgg' with _ ht
      exact hne ht.symm
def markD (d : Dk) : Dk := ⟨marks 1 d.cells.length, marksW (1 + d.cells.length) d.waits.length, d.gone⟩

def MarkPostD (base top : Nat) (v : Value) (d : Dk) (w : World) (e : Ending) (w' : World) : Prop :=
  e = .returned (.int .i64 (1 + (d.cells.length : Int) + 2 * (d.waits.length : Int))) ∧ DkIn w' base top v (markD d) ∧ Only base top w w'

set_option maxHeartbeats 1000000 in
theorem mark_disk (base top : Nat) (v : Value) (d : Dk) (w : World) (hn : d.cells.length ≤ 1048576) (hm : d.waits.length ≤ 1048576) (htop : top ≤ w.heap.size) (h : DkIn w base top v d) :
    Calls Try.prog 25 #[v, .int .i64 1] w (MarkPostD base top v d w) := by
  obtain ⟨t, u1, u2, rfl, ht, ⟨h1, t1⟩, ⟨h2, t2⟩⟩ := h
  obtain ⟨A, c, rfl, _⟩ := own_lies h1
  obtain ⟨B, e, rfl, _⟩ := own_lies h2
  have hS := fun W hW => mark_strs base t A c d.cells 1 W (by omega) (by omega) hW
  have hT := fun W hW => mark_waits base B e d.waits (1 + d.cells.length) W (by omega) (by omega) hW
  have hne := own_ne h1 h2 (by rcases ht with rfl | rfl <;> decide)
  have r1 : ∀ k, (Value.slice A d.cells.length c).ownBlock = some k → base ≤ k ∧ k < top := fun k hk => ⟨(h1.lt k hk).1, t1 k hk⟩
  have r2 : ∀ k, (Value.slice B d.waits.length e).ownBlock = some k → base ≤ k ∧ k < top := fun k hk => ⟨(h2.lt k hk).1, t2 k hk⟩
  have f1 : ∀ k, (Value.slice A d.cells.length c).ownBlock = some k → k < w.heap.size := fun k hk => (h1.lt k hk).2
  have cast1 : ((1 + d.cells.length : Nat) : Int) = 1 + (d.cells.length : Int) := by omega
  rw [cast1] at hT
  have hN1 : (markD d).cells.length = d.cells.length := by simp [markD, marks_len]
  have hN2 : (markD d).waits.length = d.waits.length := by simp [markD, marksW_len]
  have fin : ∀ W : World, W.ownsRow base t 1 (.slice A d.cells.length c) d.cells.length (strCells (marks 1 d.cells.length)) → W.ownsRow base 58 2 (.slice B d.waits.length e) d.waits.length (wtCells (marksW (1 + d.cells.length) d.waits.length)) → DkIn W base top (.agg #[.slice A d.cells.length c, .slice B d.waits.length e, .bool d.gone]) (markD d) := fun W k1 k2 =>
    ⟨t, _, _, rfl, ht, ⟨by rw [hN1]; exact k1, t1⟩, ⟨by rw [hN2]; exact k2, t2⟩⟩
  have FIN := Lib.hid fin
  have HNE := Lib.hid hne
  clear cast1 hN1 hN2 fin hne
  go_enter Try.func25, Try.ntmps25
  go_wp2_with (first
    | (go_at_call 54
       refine (hS _ (h1.alloc _)).mono ?_
       rintro r w2 ⟨rfl, o1, g1⟩
       have o2 := (h2.alloc _).kept g1 HNE.out
       have hc : ∀ o, w2.cell? ⟨w.heap.size, o, none⟩ = (w.alloc _).cell? ⟨w.heap.size, o, none⟩ := fun o => World.cell?_of_block (g1.block w.heap.size (by simp) (fun e => absurd (f1 _ e.symm) (Nat.lt_irrefl _))))
    | (go_at_call 55
       refine (hT _ o2).mono ?_
       rintro r w3 ⟨rfl, o3, g3⟩))
  go_ret
  refine ⟨rfl, FIN.out _ (o1.kept g3 ?_) o3, (Only.of_below (bel_new (Below.refl _ _) _)).trans ((Only.of_grown g1 r1).trans (Only.of_grown g3 r2))⟩
  exact (own_ne h2 h1 (by rcases ht with rfl | rfl <;> decide))

set_option maxHeartbeats 1000000 in
theorem held_disk (base : Nat) (v : Value) (d : Dk) (w : World) (hn : d.cells.length ≤ 1048576) (hm : d.waits.length ≤ 1048576) (h : DkOwn w base v (markD d)) :
    Calls Try.prog 26 #[v, .int .i64 1] w fun r w' => r = .returned (.int .i64 (1 + (d.cells.length : Int) + 2 * (d.waits.length : Int))) ∧ Below w.heap.size w w' := by
  obtain ⟨t, u1, u2, rfl, ht, h1, h2⟩ := h
  have hN1 : (markD d).cells.length = d.cells.length := by simp [markD, marks_len]
  have hN2 : (markD d).waits.length = d.waits.length := by simp [markD, marksW_len]
  rw [hN1] at h1
  rw [hN2] at h2
  obtain ⟨A, c, rfl, _⟩ := own_lies h1
  obtain ⟨B, e, rfl, _⟩ := own_lies h2
  have hS := fun W hW => held_strs base t A c d.cells.length 1 W (by omega) (by omega) (own_bel (w' := W) h1 hW)
  have hT := fun W hW => held_waits base B e d.waits.length (1 + d.cells.length) W (by omega) (by omega) (own_bel (w' := W) h2 hW)
  have cast1 : ((1 + d.cells.length : Nat) : Int) = 1 + (d.cells.length : Int) := by omega
  rw [cast1] at hT
  have nn1 : ¬ (1 + (d.cells.length : Int)) < 0 := by omega
  have nn2 : ¬ (1 + (d.cells.length : Int) + 2 * (d.waits.length : Int)) < 0 := by omega
  clear cast1 hN1 hN2
  go_enter Try.func26, Try.ntmps26
  go_wp2_with (first
    | (go_at_call 56; refine (hS _ (bel_new (Below.refl _ _) _)).mono ?_; rintro r w2 ⟨rfl, hb2⟩; have B2 := bel_then (bel_new (Below.refl _ _) _) hb2; obtain ⟨hc, hf⟩ := bcell hb2)
    | (go_at_call 57; refine (hT _ B2).mono ?_; rintro r w3 ⟨rfl, hb3⟩; have B3 := bel_then B2 hb3))
  go_ret
  exact ⟨rfl, B3⟩
end Go.Proofs.Ytadgknkheachaaa
