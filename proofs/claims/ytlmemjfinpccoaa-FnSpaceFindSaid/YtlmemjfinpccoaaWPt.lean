/-
  The walk of FnSpaceTake.
-/
import Derived.Test.YtlmemjfinpccoaaDrT
import Derived.Test.YtlmemjfinpccoaaPuT
import Derived.Test.YtlmemjfinpccoaaWTG
import Derived.Deep.RegionHeld
namespace Go.Proofs.Ytlmemjfinpccoaa
open Go.RowKit

theorem lies_cell {w : World} {b o k : Nat} {xs : List Int} {x : Int} (h : Lies w (some ⟨b, o, none⟩) (intCells xs)) (hx : xs[k]? = some x) : w.cell? ⟨b, o + k, none⟩ = some (.int .i64 x) := by
  obtain ⟨hk, he⟩ := List.getElem?_eq_some_iff.1 hx
  obtain ⟨b', o', e, _, hc⟩ := h.int k hk
  cases e
  rw [hc, he]
theorem lies_some {w : World} {A : Option Addr} {k : Nat} {xs : List Int} {x : Int} (h : Lies w A (intCells xs)) (hx : xs[k]? = some x) : ∃ b o, A = some ⟨b, o, none⟩ ∧ (k : Int) < (xs.length : Int) := by
  obtain ⟨hk, he⟩ := List.getElem?_eq_some_iff.1 hx
  obtain ⟨b', o', e, _, _⟩ := h.int k hk
  exact ⟨b', o', e, by omega⟩
theorem wf_row {n : Int} (h0 : -1 ≤ n) (h1 : n ≤ 64) : (Lit.int .i64 n).wf = true := by
  have e1 : IntKind.i64.min = -9223372036854775808 := by decide
  have e2 : IntKind.i64.max = 9223372036854775807 := by decide
  show (decide (IntKind.i64.min ≤ n) && decide (n ≤ IntKind.i64.max)) = true
  rw [e1, e2]
  simp
  omega
/-- What comes back of a reference that was taken. -/
theorem give_back (A B : Option Addr) (c e : Nat) (d D : Sp) (n : Int) (w : World) (hwn : (Lit.int .i64 n).wf = true) (hn : D.refs.length ≤ 1048576) (hm : D.last.length ≤ 1048576) (hA : SpAt w A B D) (hb : (giveS D n).2 = true ∧ (giveS D n).1.refs = d.refs) :
    Calls Try.prog 37 #[.agg #[.slice A D.refs.length c, .slice B D.last.length e], .int .i64 n] w fun r w' => ∃ A' c' B' e' m', r = .returned (.tuple #[.agg #[.slice A' d.refs.length c', .slice B' m' e'], .bool true]) ∧ Lies w' A' (intCells d.refs) ∧ Below w.heap.size w w' :=
  (impl_give A B c e D n w hwn hn hm hA).mono fun r w' ⟨A', c', B', e', he, ho, hbl⟩ => ⟨A', c', B', e', (giveS D n).1.last.length, by rw [he, hb.1, hb.2], by have := ho.lies.1; rw [hb.2] at this; exact this, hbl⟩

set_option maxRecDepth 100000 in
set_option maxHeartbeats 8000000 in
theorem walk_ptake (A : Option Addr) (nb cap : Nat) (w : World) (hnb : nb ≤ cap) (hA : BytesAt w A nb) : Calls Try.prog 14 #[.slice A nb cap] w fun r w' => r = .returned (.bool true) ∧ Below w.heap.size w w' := by
  have hD := draw_take A nb cap w hnb hA
  by_cases hbig : (1048576 : Int) < (nb : Int)
  · go_enter Try.func14, Try.ntmps14
    go_wp2_with fail
    go_ret
    exact ⟨rfl, Below.refl _ _⟩
  clear hA hnb
  go_enter Try.func14, Try.ntmps14
  go_wp2_with (go_at_call 48; refine hD.mono ?_; rintro r w1 ⟨A1, c1, E1, e1, d, n, t, n0, n1, t0, t1, rfl, hs, hn, hm, hb1⟩; refine Hid.out ?_)
  refine Lib.hid ?_
  replace hn : d.refs.length ≤ 1048576 := by omega
  replace hm : d.last.length ≤ 1048576 := by omega
  have hwn := wf_row n0 n1
  have b3 := B2.new w1 24 (.slice A1 d.refs.length c1) (.slice E1 d.last.length e1)
  have bl : Below w1.heap.size w1 (w1.alloc (.cells #[.slice A1 d.refs.length c1, .slice E1 d.last.length e1] 24)) := (Below.refl _ _).alloc (Nat.le_refl _) _
  replace hs := hs.below bl
  have BB := bel_then hb1 bl
  have hSp := fun A B c e W hW => spec_take A B c e d n t W hn hm hW
  have hIm := fun A B c e W hW => impl_take A B c e d n t W hwn hn hm hW
  have hDn : ((takeS d n t).1).refs.length ≤ 1048576 ∧ ((takeS d n t).1).last.length ≤ 1048576 := take_len d n t
  have hF := fun h => take_facts (d := d) (n := n) (t := t) h
  obtain ⟨D, hD'⟩ : ∃ D, D = (takeS d n t).1 := ⟨_, rfl⟩
  rw [← hD'] at hDn
  obtain ⟨b, hb⟩ : ∃ b, b = (takeS d n t).2 := ⟨_, rfl⟩
  simp only [← hD', ← hb] at hSp hIm hF
  have hbb : (b == b) = true := by simp
  clear hD' hb bl hb1 hD
  obtain ⟨hD1, hD2⟩ := hDn
  have K := hIm A1 E1 c1 e1 _ hs
  obtain ⟨⟨x0, x1⟩, _⟩ := b3.cells
  go_wp2_with (go_at_call 35; refine K.mono ?_; rintro r w2 ⟨A2, c2, E2, e2, rfl, o2, hb2⟩; refine Hid.out ?_)
  refine Lib.hid ?_
  have bl : Below w2.heap.size w2 (w2.alloc (.cells #[.slice A2 D.refs.length c2, .slice E2 D.last.length e2] 24)) := (Below.refl _ _).alloc (Nat.le_refl _) _
  have b6 := B2.new w2 24 (.slice A2 D.refs.length c2) (.slice E2 D.last.length e2)
  replace b3 := (b3.below hb2).below bl
  replace hs := (hs.below hb2).below bl
  have hg := o2.lies.below bl
  replace BB := bel_then (bel_then BB hb2) bl
  clear K x0 x1 o2 hb2 bl hIm
  have K := hSp A1 E1 c1 e1 _ hs
  obtain ⟨⟨x0, x1⟩, _⟩ := b3.cells
  go_wp2_with (go_at_call 34; refine K.mono ?_; rintro r w3 ⟨A3, c3, E3, e3, rfl, o3, hb3⟩; refine Hid.out ?_)
  refine Lib.hid ?_
  have bl : Below w3.heap.size w3 (w3.alloc (.cells #[.slice A3 D.refs.length c3, .slice E3 D.last.length e3] 24)) := (Below.refl _ _).alloc (Nat.le_refl _) _
  have b8 := B2.new w3 24 (.slice A3 D.refs.length c3) (.slice E3 D.last.length e3)
  replace b3 := (b3.below hb3).below bl
  replace b6 := (b6.below hb3).below bl
  replace hs := (hs.below hb3).below bl
  replace hg := (hg.below hb3).below bl
  have ho := o3.lies.below bl
  replace BB := bel_then (bel_then BB hb3) bl
  clear K x0 x1 o3 hb3 bl hSp
  have K := pf_space A2 E2 A3 E3 c2 e2 c3 e3 D _ hD1 hD2 hg ho
  obtain ⟨⟨x0, x1⟩, _⟩ := b6.cells
  obtain ⟨⟨y0, y1⟩, _⟩ := b8.cells
  go_wp2_with (go_at_call 44; refine K.mono ?_; rintro r w4 ⟨rfl, hb4⟩; refine Hid.out ?_)
  refine Lib.hid ?_
  replace b3 := b3.below hb4
  replace b6 := b6.below hb4
  replace hs := hs.below hb4
  replace hg := hg.below hb4
  replace BB := bel_then BB hb4
  clear K x0 x1 y0 y1 hb4 b8 ho
  cases b with
  | false =>
    go_wp2_with fail
    go_ret
    exact ⟨rfl, BB⟩
  | true =>
    replace hF := hF (by simp)
    obtain ⟨⟨x0, x1⟩, _⟩ := b6.cells
    have K := give_back A2 E2 c2 e2 d D n w4 hwn hD1 hD2 hg hF.back
    go_wp2_with (go_at_call 37; refine K.mono ?_; rintro r w5 ⟨A5, c5, E5, e5, m5, rfl, hk5, hb5⟩; refine Hid.out ?_)
    refine Lib.hid ?_
    have bl : Below w5.heap.size w5 (w5.alloc (.cells #[.slice A5 d.refs.length c5, .slice E5 m5 e5] 24)) := (Below.refl _ _).alloc (Nat.le_refl _) _
    have b11 := B2.new w5 24 (.slice A5 d.refs.length c5) (.slice E5 m5 e5)
    replace b3 := (b3.below hb5).below bl
    replace b6 := (b6.below hb5).below bl
    replace hs := (hs.below hb5).below bl
    replace hg := (hg.below hb5).below bl
    have hk := hk5.below bl
    replace BB := bel_then (bel_then BB hb5) bl
    clear K x0 x1 hk5 hb5 bl
    go_upto_region 10 with fail
    obtain ⟨W, hW⟩ : ∃ W, W = w5.alloc (.cells #[.slice A5 d.refs.length c5, .slice E5 m5 e5] 24) := ⟨_, rfl⟩
    rw [← hW] at b3 b6 b11 hs hg hk BB ⊢
    obtain ⟨hd, hDo, ⟨k, rfl, hk64, x, u0, u1, r1, r2, r3⟩, _, hsum⟩ := hF
    obtain ⟨p1, q1, rfl, l1⟩ := lies_some hs.1 r1
    obtain ⟨p2, q2, rfl, l2⟩ := lies_some hg.1 r2
    obtain ⟨p3, q3, rfl, l3⟩ := lies_some hg.2 r3
    have hq1 : (t == t) = true := by simp
    have hq2 := IntWalk.i64_in (x + 1) (by omega)
    have hq3 : (x + 1 == x + 1) = true := by simp
    have hs2 := sumL_small (small_ok hd) d.refs.length (Nat.le_refl _)
    rw [List.take_length, hd.1] at hs2
    have hq4 := IntWalk.i64_in (sumL d.refs + 1) (by omega)
    have hq5 : (sumL d.refs + 1 == sumL d.refs + 1) = true := by simp
    have hS1 := fun W h => pf_sum (some ⟨p1, q1, none⟩) c1 d.refs W hn (small_ok hd) h
    have hS2 := fun W h => pf_sum (some ⟨p2, q2, none⟩) c2 D.refs W hD1 (small_ok hDo) h
    simp only [hsum] at hS2
    have hok := okS_yes hDo
    have HX := Lib.hid (And.intro hs2 (And.intro hd hDo))
    obtain ⟨Kp, q0, hstep, hS, hC1, hC2, hC3, hC4⟩ : ∃ Kp : World → Prop, Kp W.drew ∧ (∀ a b, Kp a → Below a.heap.size a b → Kp b) ∧
        (∀ a, Kp a → a.cell? ⟨w5.heap.size, 0, none⟩ = some (.slice A5 d.refs.length c5) ∧ a.cell? ⟨w1.heap.size, 0, none⟩ = some (.slice (some ⟨p1, q1, none⟩) d.refs.length c1) ∧ a.cell? ⟨w2.heap.size, 0, none⟩ = some (.slice (some ⟨p2, q2, none⟩) D.refs.length c2) ∧ a.cell? ⟨w2.heap.size, 1, none⟩ = some (.slice (some ⟨p3, q3, none⟩) D.last.length e2) ∧ a.cell? ⟨p3, q3 + k, none⟩ = some (.int .i64 t) ∧ a.cell? ⟨p2, q2 + k, none⟩ = some (.int .i64 (x + 1)) ∧ a.cell? ⟨p1, q1 + k, none⟩ = some (.int .i64 x)) ∧
        (∀ a, Kp a → Calls Try.prog 49 #[.slice A5 d.refs.length c5, .slice (some ⟨p1, q1, none⟩) d.refs.length c1] a fun r w' => r = .returned (.bool true) ∧ Below a.heap.size a w') ∧
        (∀ a, Kp a → Calls Try.prog 27 #[.agg #[.slice (some ⟨p2, q2, none⟩) D.refs.length c2, .slice (some ⟨p3, q3, none⟩) D.last.length e2]] a fun r w' => r = .returned (.bool true) ∧ Below a.heap.size a w') ∧
        (∀ a, Kp a → Calls Try.prog 50 #[.slice (some ⟨p2, q2, none⟩) D.refs.length c2] a fun r w' => r = .returned (.int .i64 (sumL d.refs + 1)) ∧ a = w') ∧
        (∀ a, Kp a → Calls Try.prog 50 #[.slice (some ⟨p1, q1, none⟩) d.refs.length c1] a fun r w' => r = .returned (.int .i64 (sumL d.refs)) ∧ a = w') :=
      ⟨fun a => B2 a w5.heap.size 24 (.slice A5 d.refs.length c5) (.slice E5 m5 e5) ∧ B2 a w1.heap.size 24 (.slice (some ⟨p1, q1, none⟩) d.refs.length c1) (.slice E1 d.last.length e1) ∧ B2 a w2.heap.size 24 (.slice (some ⟨p2, q2, none⟩) D.refs.length c2) (.slice (some ⟨p3, q3, none⟩) D.last.length e2) ∧ Lies a A5 (intCells d.refs) ∧ SpAt a (some ⟨p1, q1, none⟩) E1 d ∧ SpAt a (some ⟨p2, q2, none⟩) (some ⟨p3, q3, none⟩) D,
        ⟨b11.drew, b3.drew, b6.drew, hk, hs, hg⟩,
        fun a b ⟨h1, h2, h3, h4, h5, h6⟩ h => ⟨h1.below h, h2.below h, h3.below h, h4.below h, h5.below h, h6.below h⟩,
        fun a ⟨h1, h2, h3, h4, h5, h6⟩ => ⟨h1.cells.1.1, h2.cells.1.1, h3.cells.1.1, h3.cells.1.2, lies_cell h6.2 r3, lies_cell h6.1 r2, lies_cell h5.1 r1⟩,
        fun a ⟨_, _, _, h4, h5, _⟩ => pf_ints A5 (some ⟨p1, q1, none⟩) c5 c1 d.refs a hn h4 h5.1,
        fun a ⟨_, _, _, _, _, h6⟩ => by rw [← hok]; exact impl_ok (some ⟨p2, q2, none⟩) (some ⟨p3, q3, none⟩) c2 e2 D a hD1 hD2 h6,
        fun a ⟨_, _, _, _, _, h6⟩ => hS2 a h6.1,
        fun a ⟨_, _, _, _, h5, _⟩ => hS1 a h5.1⟩
    clear hW
    clear hs2 hd hDo hsum n0 n1 t0 t1 hbig hwn hS1 hS2 hok b11 b3 b6 hk hs hg r1 r2 r3 HX hn hm hD1 hD2 u0 u1
    go_region_held (fun a => a.cell? ⟨w5.heap.size, 0, none⟩ = some (.slice A5 d.refs.length c5) ∧ a.cell? ⟨w1.heap.size, 0, none⟩ = some (.slice (some ⟨p1, q1, none⟩) d.refs.length c1) ∧ a.cell? ⟨w2.heap.size, 0, none⟩ = some (.slice (some ⟨p2, q2, none⟩) D.refs.length c2) ∧ a.cell? ⟨w2.heap.size, 1, none⟩ = some (.slice (some ⟨p3, q3, none⟩) D.last.length e2) ∧ a.cell? ⟨p3, q3 + k, none⟩ = some (.int .i64 t) ∧ a.cell? ⟨p2, q2 + k, none⟩ = some (.int .i64 (x + 1)) ∧ a.cell? ⟨p1, q1 + k, none⟩ = some (.int .i64 x))
      (with_reducible (first | exact hS _ q2 | exact hS _ q1 | exact hS _ q0))
      (first
        | (go_at_call 49; (with_reducible refine (hC1 _ q0).mono ?_); rintro r w8 ⟨rfl, hb8⟩; have q1 := hstep _ _ q0 hb8)
        | (go_at_call 27; (with_reducible refine (hC2 _ q1).mono ?_); rintro r w9 ⟨rfl, hb9⟩; have q2 := hstep _ _ q1 hb9)
        | (go_at_call 50; (with_reducible refine (hC3 _ q2).mono ?_); rintro r w10 ⟨rfl, rfl⟩)
        | (go_at_call 50; (with_reducible refine (hC4 _ q2).mono ?_); rintro r w11 ⟨rfl, rfl⟩))
    all_goals go_wp2_with fail
    all_goals go_ret
    all_goals exact ⟨rfl, bel_then (bel_then BB.drew hb8) hb9⟩
end Go.Proofs.Ytlmemjfinpccoaa
