/-
  The walk of FnSpaceOrder.
-/
import Derived.Test.YtlmemjfinpccoaaWPt
namespace Go.Proofs.Ytlmemjfinpccoaa
open Go.RowKit

theorem bytes_below {w w' : World} {A : Option Addr} {n : Nat} (hA : BytesAt w A n) (hb : Below w.heap.size w w') : BytesAt w' A n := fun h0 => by
  obtain ⟨b, off, e, hlt, hc⟩ := hA h0
  exact ⟨b, off, e, Nat.lt_of_lt_of_le hlt hb.size, fun j hj => by obtain ⟨z, z0, z1, hz⟩ := hc j hj; exact ⟨z, z0, z1, (hb.cell (p := ⟨b, off + j, none⟩) hlt).trans hz⟩⟩

set_option maxRecDepth 100000 in
set_option maxHeartbeats 8000000 in
theorem walk_porder (A : Option Addr) (nb cap : Nat) (A' : Option Addr) (nb' cap' : Nat) (w : World) (hnb : nb ≤ cap) (hA : BytesAt w A nb) (hnb' : nb' ≤ cap') (hA' : BytesAt w A' nb') : Calls Try.prog 17 #[.slice A nb cap, .slice A' nb' cap'] w fun r w' => r = .returned (.bool true) ∧ Below w.heap.size w w' := by
  have hD := draw_take A nb cap w hnb hA
  have hE := fun W h => draw_take A' nb' cap' W hnb' (bytes_below (w' := W) hA' h)
  by_cases hbig : (1048576 : Int) < (nb : Int)
  · go_enter Try.func17, Try.ntmps17
    go_wp2_with fail
    go_ret
    exact ⟨rfl, Below.refl _ _⟩
  by_cases hbig' : (1048576 : Int) < (nb' : Int)
  · go_enter Try.func17, Try.ntmps17
    go_wp2_with fail
    go_ret
    exact ⟨rfl, Below.refl _ _⟩
  clear hA hnb hA' hnb'
  go_enter Try.func17, Try.ntmps17
  go_wp2_with (go_at_call 48; refine hD.mono ?_; rintro r w1 ⟨A1, c1, E1, e1, d, n, t, n0, n1, t0, t1, rfl, hs, hn, hm, hb1⟩; refine Hid.out ?_)
  refine Lib.hid ?_
  replace hn : d.refs.length ≤ 1048576 := by omega
  replace hm : d.last.length ≤ 1048576 := by omega
  have hwn := wf_row n0 n1
  have b5 := B2.new w1 24 (.slice A1 d.refs.length c1) (.slice E1 d.last.length e1)
  have bl : Below w1.heap.size w1 (w1.alloc (.cells #[.slice A1 d.refs.length c1, .slice E1 d.last.length e1] 24)) := (Below.refl _ _).alloc (Nat.le_refl _) _
  replace hs := hs.below bl
  have BB := bel_then hb1 bl
  have K := hE _ BB
  clear bl hb1 hD hE n0 n1 t0 t1
  go_wp2_with (go_at_call 48; refine K.mono ?_; rintro r w2 ⟨A2, c2, E2, e2, d2, n', t', n0, n1, t0, t1, rfl, _, _, _, hb2⟩; refine Hid.out ?_)
  refine Lib.hid ?_
  have hwn' := wf_row n0 n1
  have bl : Below w2.heap.size w2 (w2.alloc (.cells #[.slice A2 d2.refs.length c2, .slice E2 d2.last.length e2] 24)) := (Below.refl _ _).alloc (Nat.le_refl _) _
  replace b5 := (b5.below hb2).below bl
  replace hs := (hs.below hb2).below bl
  replace BB := bel_then (bel_then BB hb2) bl
  clear bl hb2 K n0 n1 t0 t1
  have hI1 := fun A B c e W hW => impl_take A B c e d n t W hwn hn hm hW
  have hS1 := fun A B c e W hW => spec_take A B c e d n t W hn hm hW
  have hI3 := fun A B c e W hW => impl_take A B c e d n' t' W hwn' hn hm hW
  have hD1 : ((takeS d n t).1).refs.length ≤ 1048576 ∧ ((takeS d n t).1).last.length ≤ 1048576 := take_len d n t
  have hD3 : ((takeS d n' t').1).refs.length ≤ 1048576 ∧ ((takeS d n' t').1).last.length ≤ 1048576 := take_len d n' t'
  have hP := fun h (hne : n ≠ n') => take_order (d := d) (n1 := n) (t1 := t) (n2 := n') (t2 := t') h hne
  obtain ⟨D1, hD1'⟩ : ∃ D, D = (takeS d n t).1 := ⟨_, rfl⟩
  obtain ⟨o1, ho1'⟩ : ∃ D, D = (takeS d n t).2 := ⟨_, rfl⟩
  obtain ⟨D3, hD3'⟩ : ∃ D, D = (takeS d n' t').1 := ⟨_, rfl⟩
  obtain ⟨o3, ho3'⟩ : ∃ D, D = (takeS d n' t').2 := ⟨_, rfl⟩
  simp only [← hD1', ← ho1', ← hD3', ← ho3'] at hI1 hS1 hI3 hD1 hD3 hP
  clear hD1' ho1' hD3' ho3'
  have hI2 := fun A B c e W hW => impl_take A B c e D1 n' t' W hwn' hD1.1 hD1.2 hW
  have hI4 := fun A B c e W hW => impl_take A B c e D3 n t W hwn hD3.1 hD3.2 hW
  have hD2 : ((takeS D1 n' t').1).refs.length ≤ 1048576 ∧ ((takeS D1 n' t').1).last.length ≤ 1048576 := take_len D1 n' t'
  obtain ⟨D2, hD2'⟩ : ∃ D, D = (takeS D1 n' t').1 := ⟨_, rfl⟩
  obtain ⟨o2, ho2'⟩ : ∃ D, D = (takeS D1 n' t').2 := ⟨_, rfl⟩
  obtain ⟨D4, hD4'⟩ : ∃ D, D = (takeS D3 n t).1 := ⟨_, rfl⟩
  obtain ⟨o4, ho4'⟩ : ∃ D, D = (takeS D3 n t).2 := ⟨_, rfl⟩
  simp only [← hD2', ← ho2', Prod.ext_iff, ← hD4', ← ho4'] at hI2 hI4 hD2 hP
  clear hD2' ho2' hD4' ho4'
  have hbb : (o1 == o1) = true := by simp
  have hbn : (o1 != o1) = false := by simp
  have HP := Lib.hid hP
  clear hP
  have K := hI1 A1 E1 c1 e1 _ hs
  obtain ⟨⟨x0, x1⟩, _⟩ := b5.cells
  go_wp2_with (go_at_call 35; refine K.mono ?_; rintro r w3 ⟨A3, c3, E3, e3, rfl, oo, hbx⟩; refine Hid.out ?_)
  refine Lib.hid ?_
  have bl : Below w3.heap.size w3 (w3.alloc (.cells #[.slice A3 D1.refs.length c3, .slice E3 D1.last.length e3] 24)) := (Below.refl _ _).alloc (Nat.le_refl _) _
  replace b5 := (b5.below hbx).below bl
  replace hs := (hs.below hbx).below bl
  have z3 := B2.new w3 24 (.slice A3 D1.refs.length c3) (.slice E3 D1.last.length e3)
  have y3 := oo.lies.below bl
  replace BB := bel_then (bel_then BB hbx) bl
  clear K x0 x1 oo hbx bl hI1
  have K := hI2 A3 E3 c3 e3 _ y3
  obtain ⟨⟨x0, x1⟩, _⟩ := z3.cells
  go_wp2_with (go_at_call 35; refine K.mono ?_; rintro r w4 ⟨A4, c4, E4, e4, rfl, oo, hbx⟩; refine Hid.out ?_)
  refine Lib.hid ?_
  have bl : Below w4.heap.size w4 (w4.alloc (.cells #[.slice A4 D2.refs.length c4, .slice E4 D2.last.length e4] 24)) := (Below.refl _ _).alloc (Nat.le_refl _) _
  replace b5 := (b5.below hbx).below bl
  replace hs := (hs.below hbx).below bl
  replace z3 := (z3.below hbx).below bl
  replace y3 := (y3.below hbx).below bl
  have z4 := B2.new w4 24 (.slice A4 D2.refs.length c4) (.slice E4 D2.last.length e4)
  have y4 := oo.lies.below bl
  replace BB := bel_then (bel_then BB hbx) bl
  clear K x0 x1 oo hbx bl hI2
  have K := hI3 A1 E1 c1 e1 _ hs
  obtain ⟨⟨x0, x1⟩, _⟩ := b5.cells
  go_wp2_with (go_at_call 35; refine K.mono ?_; rintro r w5 ⟨A5, c5, E5, e5, rfl, oo, hbx⟩; refine Hid.out ?_)
  refine Lib.hid ?_
  have bl : Below w5.heap.size w5 (w5.alloc (.cells #[.slice A5 D3.refs.length c5, .slice E5 D3.last.length e5] 24)) := (Below.refl _ _).alloc (Nat.le_refl _) _
  replace b5 := (b5.below hbx).below bl
  replace hs := (hs.below hbx).below bl
  replace z3 := (z3.below hbx).below bl
  replace y3 := (y3.below hbx).below bl
  replace z4 := (z4.below hbx).below bl
  replace y4 := (y4.below hbx).below bl
  have z5 := B2.new w5 24 (.slice A5 D3.refs.length c5) (.slice E5 D3.last.length e5)
  have y5 := oo.lies.below bl
  replace BB := bel_then (bel_then BB hbx) bl
  clear K x0 x1 oo hbx bl hI3
  have K := hI4 A5 E5 c5 e5 _ y5
  obtain ⟨⟨x0, x1⟩, _⟩ := z5.cells
  go_wp2_with (go_at_call 35; refine K.mono ?_; rintro r w6 ⟨A6, c6, E6, e6, rfl, oo, hbx⟩; refine Hid.out ?_)
  refine Lib.hid ?_
  have bl : Below w6.heap.size w6 (w6.alloc (.cells #[.slice A6 D4.refs.length c6, .slice E6 D4.last.length e6] 24)) := (Below.refl _ _).alloc (Nat.le_refl _) _
  replace b5 := (b5.below hbx).below bl
  replace hs := (hs.below hbx).below bl
  replace z3 := (z3.below hbx).below bl
  replace y3 := (y3.below hbx).below bl
  replace z4 := (z4.below hbx).below bl
  replace y4 := (y4.below hbx).below bl
  replace z5 := (z5.below hbx).below bl
  replace y5 := (y5.below hbx).below bl
  have z6 := B2.new w6 24 (.slice A6 D4.refs.length c6) (.slice E6 D4.last.length e6)
  have y6 := oo.lies.below bl
  replace BB := bel_then (bel_then BB hbx) bl
  clear K x0 x1 oo hbx bl hI4
  clear z5 y5
  have K := hS1 A1 E1 c1 e1 _ hs
  obtain ⟨⟨x0, x1⟩, _⟩ := b5.cells
  go_wp2_with (go_at_call 34; refine K.mono ?_; rintro r w7 ⟨A7, c7, E7, e7, rfl, oo, hbx⟩; refine Hid.out ?_)
  refine Lib.hid ?_
  have bl : Below w7.heap.size w7 (w7.alloc (.cells #[.slice A7 D1.refs.length c7, .slice E7 D1.last.length e7] 24)) := (Below.refl _ _).alloc (Nat.le_refl _) _
  replace b5 := (b5.below hbx).below bl
  replace hs := (hs.below hbx).below bl
  replace z3 := (z3.below hbx).below bl
  replace y3 := (y3.below hbx).below bl
  replace z4 := (z4.below hbx).below bl
  replace y4 := (y4.below hbx).below bl
  replace z6 := (z6.below hbx).below bl
  replace y6 := (y6.below hbx).below bl
  have z7 := B2.new w7 24 (.slice A7 D1.refs.length c7) (.slice E7 D1.last.length e7)
  have y7 := oo.lies.below bl
  replace BB := bel_then (bel_then BB hbx) bl
  clear K x0 x1 oo hbx bl hS1
  clear b5 hs
  have K := pf_space A3 E3 A7 E7 c3 e3 c7 e7 D1 _ hD1.1 hD1.2 y3 y7
  obtain ⟨⟨x0, x1⟩, _⟩ := z3.cells
  obtain ⟨⟨u0, u1⟩, _⟩ := z7.cells
  by_cases hgo : o1 = true ∧ n ≠ n'
  · obtain ⟨rfl, hne⟩ := hgo
    have hnb : (n == n') = false := by simpa using hne
    obtain ⟨ho, hx⟩ := HP.out (by simp) hne
    subst ho
    clear hne HP
    go_wp2_with (go_at_call 44; refine K.mono ?_; rintro r w8 ⟨rfl, hb8⟩; refine Hid.out ?_)
    refine Lib.hid ?_
    replace BB := bel_then BB hb8
    replace z4 := z4.below hb8
    replace y4 := y4.below hb8
    replace z6 := z6.below hb8
    replace y6 := y6.below hb8
    clear K x0 x1 u0 u1 hb8 z3 y3 z7 y7
    cases o2 with
    | false =>
      go_wp2_with fail
      go_ret
      exact ⟨rfl, BB⟩
    | true =>
      obtain ⟨hx1, hx2⟩ := hx (by simp)
      replace hx1 : D4 = D2 := hx1
      replace hx2 : o4 = true := hx2
      subst hx1 hx2
      have K := pf_space A4 E4 A6 E6 c4 e4 c6 e6 D4 _ hD2.1 hD2.2 y4 y6
      obtain ⟨⟨x0, x1⟩, _⟩ := z4.cells
      obtain ⟨⟨u0, u1⟩, _⟩ := z6.cells
      go_wp2_with (go_at_call 44; refine K.mono ?_; rintro r w9 ⟨rfl, hb9⟩)
      go_ret
      exact ⟨rfl, bel_then BB hb9⟩
  · have hor : o1 = false ∨ (n == n') = true := by
      cases o1 with
      | false => exact .inl rfl
      | true => exact .inr (by simpa using hgo)
    clear hgo HP
    cases o1 with
    | false =>
      go_wp2_with (first
        | (go_at_call 44; (with_reducible refine K.mono ?_); rintro r w8 ⟨rfl, hb8⟩; have K2 := pf_space A3 E3 A7 E7 c3 e3 c7 e7 D1 _ hD1.1 hD1.2 (y3.below hb8) (y7.below hb8); obtain ⟨⟨x0, x1⟩, _⟩ := (z3.below hb8).cells; obtain ⟨⟨u0, u1⟩, _⟩ := (z7.below hb8).cells)
        | (go_at_call 44; (with_reducible refine K2.mono ?_); rintro r w9 ⟨rfl, hb9⟩))
      go_ret
      exact ⟨rfl, bel_then (bel_then BB hb8) hb9⟩
    | true =>
      have hnn : (n == n') = true := by rcases hor with h | h <;> simp_all
      clear hor
      go_wp2_with (first
        | (go_at_call 44; (with_reducible refine K.mono ?_); rintro r w8 ⟨rfl, hb8⟩; have K2 := pf_space A3 E3 A7 E7 c3 e3 c7 e7 D1 _ hD1.1 hD1.2 (y3.below hb8) (y7.below hb8); obtain ⟨⟨x0, x1⟩, _⟩ := (z3.below hb8).cells; obtain ⟨⟨u0, u1⟩, _⟩ := (z7.below hb8).cells)
        | (go_at_call 44; (with_reducible refine K2.mono ?_); rintro r w9 ⟨rfl, hb9⟩))
      go_ret
      exact ⟨rfl, bel_then (bel_then BB hb8) hb9⟩
end Go.Proofs.Ytlmemjfinpccoaa
