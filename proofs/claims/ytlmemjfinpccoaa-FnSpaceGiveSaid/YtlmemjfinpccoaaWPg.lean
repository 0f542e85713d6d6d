/-
  The walk of FnSpaceGive.
-/
import Derived.Test.YtlmemjfinpccoaaWPt
namespace Go.Proofs.Ytlmemjfinpccoaa
open Go.RowKit

set_option maxRecDepth 100000 in
set_option maxHeartbeats 8000000 in
theorem walk_pgive (A : Option Addr) (nb cap : Nat) (w : World) (hnb : nb ≤ cap) (hA : BytesAt w A nb) : Calls Try.prog 15 #[.slice A nb cap] w fun r w' => r = .returned (.bool true) ∧ Below w.heap.size w w' := by
  have hD := draw_give A nb cap w hnb hA
  by_cases hbig : (1048576 : Int) < (nb : Int)
  · go_enter Try.func15, Try.ntmps15
    go_wp2_with fail
    go_ret
    exact ⟨rfl, Below.refl _ _⟩
  clear hA hnb
  go_enter Try.func15, Try.ntmps15
  go_wp2_with (go_at_call 51; refine hD.mono ?_; rintro r w1 ⟨A1, c1, E1, e1, d, n, n0, n1, rfl, hs, hn, hm, hb1⟩; refine Hid.out ?_)
  refine Lib.hid ?_
  replace hn : d.refs.length ≤ 1048576 := by omega
  replace hm : d.last.length ≤ 1048576 := by omega
  have hwn := wf_row n0 n1
  have b3 := B2.new w1 24 (.slice A1 d.refs.length c1) (.slice E1 d.last.length e1)
  have bl : Below w1.heap.size w1 (w1.alloc (.cells #[.slice A1 d.refs.length c1, .slice E1 d.last.length e1] 24)) := (Below.refl _ _).alloc (Nat.le_refl _) _
  replace hs := hs.below bl
  have BB := bel_then hb1 bl
  have hSp := fun A B c e W hW => spec_give A B c e d n W hn hm hW
  have hIm := fun A B c e W hW => impl_give A B c e d n W hwn hn hm hW
  have hDn : ((giveS d n).1).refs.length ≤ 1048576 ∧ ((giveS d n).1).last.length ≤ 1048576 := give_len d n
  have hF := fun h => give_facts (d := d) (n := n) h
  obtain ⟨D, hD'⟩ : ∃ D, D = (giveS d n).1 := ⟨_, rfl⟩
  rw [← hD'] at hDn
  obtain ⟨b, hb⟩ : ∃ b, b = (giveS d n).2 := ⟨_, rfl⟩
  simp only [← hD', ← hb] at hSp hIm hF
  have hbb : (b == b) = true := by simp
  clear hD' hb bl hb1 hD
  obtain ⟨hD1, hD2⟩ := hDn
  have K := hIm A1 E1 c1 e1 _ hs
  obtain ⟨⟨x0, x1⟩, _⟩ := b3.cells
  go_wp2_with (go_at_call 37; refine K.mono ?_; rintro r w2 ⟨A2, c2, E2, e2, rfl, o2, hb2⟩; refine Hid.out ?_)
  refine Lib.hid ?_
  have bl : Below w2.heap.size w2 (w2.alloc (.cells #[.slice A2 D.refs.length c2, .slice E2 D.last.length e2] 24)) := (Below.refl _ _).alloc (Nat.le_refl _) _
  have b6 := B2.new w2 24 (.slice A2 D.refs.length c2) (.slice E2 D.last.length e2)
  replace b3 := (b3.below hb2).below bl
  replace hs := (hs.below hb2).below bl
  have hg := o2.lies.below bl
  replace BB := bel_then (bel_then BB hb2) bl
  clear K x0 x1 o2 hb2 bl hIm
  have K := hSp A1 E1 c1 e1 _ hs
  obtain ⟨⟨x0, x1⟩, _⟩ := b3.cells
  go_wp2_with (go_at_call 36; refine K.mono ?_; rintro r w3 ⟨A3, c3, E3, e3, rfl, o3, hb3⟩; refine Hid.out ?_)
  refine Lib.hid ?_
  have bl : Below w3.heap.size w3 (w3.alloc (.cells #[.slice A3 D.refs.length c3, .slice E3 D.last.length e3] 24)) := (Below.refl _ _).alloc (Nat.le_refl _) _
  have b8 := B2.new w3 24 (.slice A3 D.refs.length c3) (.slice E3 D.last.length e3)
  replace b3 := (b3.below hb3).below bl
  replace b6 := (b6.below hb3).below bl
  replace hs := (hs.below hb3).below bl
  replace hg := (hg.below hb3).below bl
  have ho := o3.lies.below bl
  replace BB := bel_then (bel_then BB hb3) bl
  clear K x0 x1 o3 hb3 bl hSp
  have K := pf_space A2 E2 A3 E3 c2 e2 c3 e3 D _ hD1 hD2 hg ho
  obtain ⟨⟨x0, x1⟩, _⟩ := b6.cells
  obtain ⟨⟨y0, y1⟩, _⟩ := b8.cells
  go_wp2_with (go_at_call 44; refine K.mono ?_; rintro r w4 ⟨rfl, hb4⟩; refine Hid.out ?_)
  refine Lib.hid ?_
  replace b3 := b3.below hb4
  replace b6 := b6.below hb4
  replace hs := hs.below hb4
  replace hg := hg.below hb4
  replace BB := bel_then BB hb4
  clear K x0 x1 y0 y1 hb4 b8 ho
  cases b with
  | false =>
    go_wp2_with fail
    go_ret
    exact ⟨rfl, BB⟩
  | true =>
    replace hF := hF (by simp)
    obtain ⟨hd, hDo, ⟨k, rfl, hk64, x, u0, r2, hroom⟩, hsum, hrm0, hrm1⟩ := hF
    obtain ⟨p2, q2, rfl, l2⟩ := lies_some hg.1 r2
    have hv := lies_cell hg.1 r2
    obtain ⟨⟨x0, x1⟩, _⟩ := b6.cells
    obtain ⟨one, h1e, hone⟩ : ∃ one : Int, (if x = 0 then (1 : Int) else 0) = one ∧ 0 ≤ one ∧ one ≤ 1 := ⟨_, rfl, by split <;> omega⟩
    rw [h1e] at hroom
    have hs2 := sumL_small (small_ok hd) d.refs.length (Nat.le_refl _)
    rw [List.take_length, hd.1] at hs2
    have hq1 := IntWalk.i64_in (sumL d.refs - 1) (by omega)
    have hq2 : (sumL d.refs - 1 == sumL d.refs - 1) = true := by simp
    have hq3 := IntWalk.i64_in (roomS d + one) (by omega)
    have hq4 : (roomS d + one == roomS d + one) = true := by simp
    have hq5 := IntWalk.i64_in (roomS d) (by omega)
    have hq6 : (roomS d == roomS d) = true := by simp
    have hok := okS_yes hDo
    have hS1 := fun W h => pf_sum A1 c1 d.refs W hn (small_ok hd) h
    have hS2 := fun W h => pf_sum (some ⟨p2, q2, none⟩) c2 D.refs W hD1 (small_ok hDo) h
    simp only [hsum] at hS2
    obtain ⟨Kp, q0, hstep, hS, hC1, hC2, hC3, hC4, hC5⟩ : ∃ Kp : World → Prop, Kp w4.drew ∧ (∀ a b, Kp a → Below a.heap.size a b → Kp b) ∧
        (∀ a, Kp a → a.cell? ⟨w1.heap.size, 0, none⟩ = some (.slice A1 d.refs.length c1) ∧ a.cell? ⟨w1.heap.size, 1, none⟩ = some (.slice E1 d.last.length e1) ∧ a.cell? ⟨w2.heap.size, 0, none⟩ = some (.slice (some ⟨p2, q2, none⟩) D.refs.length c2) ∧ a.cell? ⟨w2.heap.size, 1, none⟩ = some (.slice E2 D.last.length e2)) ∧
        (∀ a, Kp a → Calls Try.prog 50 #[.slice (some ⟨p2, q2, none⟩) D.refs.length c2] a fun r w' => r = .returned (.int .i64 (sumL d.refs - 1)) ∧ a = w') ∧
        (∀ a, Kp a → Calls Try.prog 50 #[.slice A1 d.refs.length c1] a fun r w' => r = .returned (.int .i64 (sumL d.refs)) ∧ a = w') ∧
        (∀ a, Kp a → Calls Try.prog 27 #[.agg #[.slice (some ⟨p2, q2, none⟩) D.refs.length c2, .slice E2 D.last.length e2]] a fun r w' => r = .returned (.bool true) ∧ Below a.heap.size a w') ∧
        (∀ a, Kp a → Calls Try.prog 29 #[.agg #[.slice (some ⟨p2, q2, none⟩) D.refs.length c2, .slice E2 D.last.length e2]] a fun r w' => r = .returned (.int .i64 (roomS d + one)) ∧ Below a.heap.size a w') ∧
        (∀ a, Kp a → Calls Try.prog 29 #[.agg #[.slice A1 d.refs.length c1, .slice E1 d.last.length e1]] a fun r w' => r = .returned (.int .i64 (roomS d)) ∧ Below a.heap.size a w') :=
      ⟨fun a => B2 a w1.heap.size 24 (.slice A1 d.refs.length c1) (.slice E1 d.last.length e1) ∧ B2 a w2.heap.size 24 (.slice (some ⟨p2, q2, none⟩) D.refs.length c2) (.slice E2 D.last.length e2) ∧ SpAt a A1 E1 d ∧ SpAt a (some ⟨p2, q2, none⟩) E2 D,
        ⟨b3.drew, b6.drew, hs, hg⟩,
        fun a b ⟨h1, h2, h3, h4⟩ h => ⟨h1.below h, h2.below h, h3.below h, h4.below h⟩,
        fun a ⟨h1, h2, _, _⟩ => ⟨h1.cells.1.1, h1.cells.1.2, h2.cells.1.1, h2.cells.1.2⟩,
        fun a ⟨_, _, _, h4⟩ => hS2 a h4.1,
        fun a ⟨_, _, h3, _⟩ => hS1 a h3.1,
        fun a ⟨_, _, _, h4⟩ => by rw [← hok]; exact impl_ok (some ⟨p2, q2, none⟩) E2 c2 e2 D a hD1 hD2 h4,
        fun a ⟨_, _, _, h4⟩ => by rw [← hroom]; exact impl_room (some ⟨p2, q2, none⟩) E2 c2 e2 D a hD1 hD2 h4,
        fun a ⟨_, _, h3, _⟩ => impl_room A1 E1 c1 e1 d a hn hm h3⟩
    clear hs2 hd hDo hsum n0 n1 hbig hwn hS1 hS2 hok b3 b6 hs hg r2 hn hm hD1 hD2 hroom hrm0 hrm1 hone
    by_cases hx : x = 0
    · have hxb : (x == 0) = true := by simpa using hx
      have hone1 : one = 1 := by rw [← h1e, if_pos hx]
      subst hone1
      clear h1e hx
      go_upto_region 12 with fail
      go_region_held (fun a => a.cell? ⟨w1.heap.size, 0, none⟩ = some (.slice A1 d.refs.length c1) ∧ a.cell? ⟨w1.heap.size, 1, none⟩ = some (.slice E1 d.last.length e1) ∧ a.cell? ⟨w2.heap.size, 0, none⟩ = some (.slice (some ⟨p2, q2, none⟩) D.refs.length c2) ∧ a.cell? ⟨w2.heap.size, 1, none⟩ = some (.slice E2 D.last.length e2))
        (with_reducible (first | exact hS _ q3 | exact hS _ q2 | exact hS _ q1 | exact hS _ q0))
        (first
          | (go_at_call 50; (with_reducible refine (hC1 _ q0).mono ?_); rintro r w7 ⟨rfl, rfl⟩)
          | (go_at_call 50; (with_reducible refine (hC2 _ q0).mono ?_); rintro r w8 ⟨rfl, rfl⟩)
          | (go_at_call 27; (with_reducible refine (hC3 _ q0).mono ?_); rintro r w9 ⟨rfl, hb9⟩; have q1 := hstep _ _ q0 hb9)
          | (go_at_call 29; (with_reducible refine (hC4 _ q1).mono ?_); rintro r w10 ⟨rfl, hb10⟩; have q2 := hstep _ _ q1 hb10)
          | (go_at_call 29; (with_reducible refine (hC5 _ q2).mono ?_); rintro r w11 ⟨rfl, hb11⟩; have q3 := hstep _ _ q2 hb11))
      all_goals go_wp2_with fail
      all_goals go_ret
      all_goals exact ⟨rfl, bel_then (bel_then (bel_then BB.drew hb9) hb10) hb11⟩
    · have hxb : (x == 0) = false := by simpa using hx
      have hone1 : one = 0 := by rw [← h1e, if_neg hx]
      subst hone1
      clear h1e hx
      go_upto_region 12 with fail
      go_region_held (fun a => a.cell? ⟨w1.heap.size, 0, none⟩ = some (.slice A1 d.refs.length c1) ∧ a.cell? ⟨w1.heap.size, 1, none⟩ = some (.slice E1 d.last.length e1) ∧ a.cell? ⟨w2.heap.size, 0, none⟩ = some (.slice (some ⟨p2, q2, none⟩) D.refs.length c2) ∧ a.cell? ⟨w2.heap.size, 1, none⟩ = some (.slice E2 D.last.length e2))
        (with_reducible (first | exact hS _ q3 | exact hS _ q2 | exact hS _ q1 | exact hS _ q0))
        (first
          | (go_at_call 50; (with_reducible refine (hC1 _ q0).mono ?_); rintro r w7 ⟨rfl, rfl⟩)
          | (go_at_call 50; (with_reducible refine (hC2 _ q0).mono ?_); rintro r w8 ⟨rfl, rfl⟩)
          | (go_at_call 27; (with_reducible refine (hC3 _ q0).mono ?_); rintro r w9 ⟨rfl, hb9⟩; have q1 := hstep _ _ q0 hb9)
          | (go_at_call 29; (with_reducible refine (hC4 _ q1).mono ?_); rintro r w10 ⟨rfl, hb10⟩; have q2 := hstep _ _ q1 hb10)
          | (go_at_call 29; (with_reducible refine (hC5 _ q2).mono ?_); rintro r w11 ⟨rfl, hb11⟩; have q3 := hstep _ _ q2 hb11))
      all_goals go_wp2_with fail
      all_goals go_ret
      all_goals exact ⟨rfl, bel_then (bel_then (bel_then BB.drew hb9) hb10) hb11⟩
end Go.Proofs.Ytlmemjfinpccoaa
