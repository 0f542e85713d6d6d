/-
  RaidRead, as the program does.
-/
import Derived.Test.YtndckncoipkhaaaRRd
namespace Go.Proofs.Ytndckncoipkhaaa
open Go.RowKit

theorem impl_ways (w : World) : Calls Try.prog 98 #[] w fun r w' => r = .returned (.slice (some ⟨w.heap.size, 0, none⟩) 3 3) ∧ w' = w.alloc (.cells #[.func (.func 124) #[] #[], .func (.func 125) #[] #[], .func (.func 126) #[] #[]] 113) := by
  go_enter Try.func98, Try.ntmps98
  go_wp2_with fail
  go_ret
  exact ⟨rfl, rfl⟩
/-- A block of the three ways. -/
def B3f (W : World) (g : Nat) : Prop := W.heap[g]? = some (.cells #[.func (.func 124) #[] #[], .func (.func 125) #[] #[], .func (.func 126) #[] #[]] 113 (0, 0))
theorem B3f.lt {W : World} {g : Nat} (h : B3f W g) : g < W.heap.size := (Array.getElem?_eq_some_iff.1 h).1
theorem B3f.below {W W' : World} {g : Nat} (h : B3f W g) (hb : Below W.heap.size W W') : B3f W' g := (hb.block g h.lt).trans h
theorem B3f.cell {W : World} {g : Nat} (h : B3f W g) (i : Nat) : W.cell? ⟨g, i, none⟩ = (#[.func (.func 124) #[] #[], .func (.func 125) #[] #[], .func (.func 126) #[] #[]] : Array Value)[i]? ∧ W.frozen? ⟨g, i, none⟩ = false := by
  unfold B3f at h
  simp [World.cell?, World.frozen?, h]
theorem fits_go {a b c d e : Int} (h : PtrGo a b c d e) (s : ByteArray) : Cut.fitsB a b c d e s = ((c == (s.size : Int)) && (d == Cut.sumT s.data.toList)) := by
  unfold Cut.fitsB
  rw [h.1, h.2]
  simp

set_option maxRecDepth 100000 in
set_option maxHeartbeats 4000000 in
theorem impl_read (A : Option Addr) (cap : Nat) (p0 p1 p2 : RD) (a b c d e : Int) (w : World) (hok : ∀ p ∈ [p0, p1, p2], DkOk p.d) (hA : RAt w A [p0, p1, p2]) (hg : PtrGo a b c d e) :
    Calls Try.prog 61 #[.agg #[.slice A 3 cap], .agg #[.int .i64 a, .int .i64 b, .int .i64 c, .int .i64 d, .int .i64 e]] w (ReadPost (readP p0 p1 p2 a b c d e) w) := by
  obtain ⟨ha, hc⟩ := hg.bounds
  obtain ⟨n, rfl⟩ : ∃ n : Nat, c = n := ⟨c.toNat, by omega⟩
  obtain ⟨m, rfl⟩ : ∃ m : Nat, a = m := ⟨a.toNat, by omega⟩
  have bl : Below w.heap.size w ((w.alloc (.cells #[.slice A 3 cap] 24)).alloc (.cells #[.int .i64 m, .int .i64 b, .int .i64 n, .int .i64 d, .int .i64 e] 43)) := bel_new (bel_new (Below.refl _ _) _) _
  have hH0 := Cut.HP.new (w.alloc (.cells #[.slice A 3 cap] 24)) m b n d e 43
  have hH : Hp5 (w.heap.size + 1) m b n d e ((w.alloc (.cells #[.slice A 3 cap] 24)).alloc (.cells #[.int .i64 m, .int .i64 b, .int .i64 n, .int .i64 d, .int .i64 e] 43)) := by
    unfold Cut.HP at hH0
    rw [World.size_alloc] at hH0
    exact ⟨hH0.1, hH0.2.1, hH0.2.2.1, hH0.2.2.2.1, hH0.2.2.2.2.1, hH0.2.2.2.2.2.1, trivial⟩
  have hR := impl_row A cap p0 p1 p2 m _ hok (hA.below bl) (by omega)
  have hxs : (latest p0.d m).size ≤ maxLen ∧ (latest p1.d m).size ≤ maxLen ∧ (latest p2.d m).size ≤ maxLen := ⟨Nat.le_trans (latest_small (hok p0 (by simp)) _) (by decide), Nat.le_trans (latest_small (hok p1 (by simp)) _) (by decide), Nat.le_trans (latest_small (hok p2 (by simp)) _) (by decide)⟩
  have k0 := zed_col p0.d m
  have k1 := zed_col p1.d m
  have k2 := zed_col p2.d m
  have hPF : ∀ (t : ByteArray) (W : World), t.size ≤ maxLen → Calls Try.prog 99 #[.agg #[.int .i64 m, .int .i64 b, .int .i64 n, .int .i64 d, .int .i64 e], .string t] W fun r w' => r = .returned (.bool (Cut.fitsB m b n d e t)) ∧ Below W.heap.size W w' := fun t W ht => by
    rw [fits_go hg]
    exact Cut.m_fits m b n d e t W ht
  have HPF := Lib.hid hPF
  unfold readP
  unfold Cut.rowG at hR
  obtain ⟨x0, h0⟩ : ∃ x0, x0 = latest p0.d m := ⟨_, rfl⟩
  obtain ⟨x1, h1⟩ : ∃ x1, x1 = latest p1.d m := ⟨_, rfl⟩
  obtain ⟨x2, h2⟩ : ∃ x2, x2 = latest p2.d m := ⟨_, rfl⟩
  obtain ⟨z0, e0⟩ : ∃ z0, z0 = zed p0.d m := ⟨_, rfl⟩
  obtain ⟨z1, e1⟩ : ∃ z1, z1 = zed p1.d m := ⟨_, rfl⟩
  obtain ⟨z2, e2⟩ : ∃ z2, z2 = zed p2.d m := ⟨_, rfl⟩
  obtain ⟨g0, i0⟩ : ∃ g0, g0 = !p0.d.gone := ⟨_, rfl⟩
  obtain ⟨g1, i1⟩ : ∃ g1, g1 = !p1.d.gone := ⟨_, rfl⟩
  obtain ⟨g2, i2⟩ : ∃ g2, g2 = !p2.d.gone := ⟨_, rfl⟩
  simp only [← h0, ← h1, ← h2, ← e0, ← e1, ← e2, ← i0, ← i1, ← i2] at hR hxs k0 k1 k2 ⊢
  obtain ⟨R, hRR⟩ : ∃ R, R = Cut.firstFit [z0, z1, z2] m b n d e 3 := ⟨_, rfl⟩
  have HFI : Hid (Cut.firstFit [z0, z1, z2] m b n d e 3 = R) := Lib.hid hRR.symm
  rw [← hRR]
  clear h0 h1 h2 e0 e1 e2 i0 i1 i2 hok hA hg hH0 hPF hRR
  go_enter Try.func61, Try.ntmps61
  go_wp2_with (go_at_call 97; refine hR.mono ?_; rintro r w2 ⟨rfl, hb2⟩; refine Hid.out ?_)
  refine Lib.hid ?_
  have hH := hH.next hb2
  have BB := bel_then bl hb2
  clear hR hb2 bl
  go_wp2_with (go_at_call 98; refine (impl_ways _).mono ?_; rintro r w3 ⟨rfl, rfl⟩; refine Hid.out ?_)
  refine Lib.hid ?_
  have hrow := (B6.new w2 #[.string x0, .bool g0, .string x1, .bool g1, .string x2, .bool g2]).alloc (.cells #[.func (.func 124) #[] #[], .func (.func 125) #[] #[], .func (.func 126) #[] #[]] 113)
  have hW : B3f _ (w2.alloc (.cells #[.string x0, .bool g0, .string x1, .bool g1, .string x2, .bool g2] 108)).heap.size := heap_alloc_new (w2.alloc (.cells #[.string x0, .bool g0, .string x1, .bool g1, .string x2, .bool g2] 108)) (.cells #[.func (.func 124) #[] #[], .func (.func 125) #[] #[], .func (.func 126) #[] #[]] 113)
  rw [World.size_alloc] at hW
  have hH := (hH.next (bel_new (Below.refl w2.heap.size w2) (.cells #[.string x0, .bool g0, .string x1, .bool g1, .string x2, .bool g2] 108))).next (bel_new (Below.refl _ _) (.cells #[.func (.func 124) #[] #[], .func (.func 125) #[] #[], .func (.func 126) #[] #[]] 113))
  have BB := bel_new (bel_new BB (.cells #[.string x0, .bool g0, .string x1, .bool g1, .string x2, .bool g2] 108)) (.cells #[.func (.func 124) #[] #[], .func (.func 125) #[] #[], .func (.func 126) #[] #[]] 113)
  go_wp2_with fail
  try simp only [World.size_alloc]
  obtain ⟨G1, hG1⟩ : ∃ G1, G1 = w2.heap.size := ⟨_, rfl⟩
  obtain ⟨G2, hG2⟩ : ∃ G2, G2 = w2.heap.size + 1 := ⟨_, rfl⟩
  rw [← hG1] at hrow
  rw [← hG2] at hW
  rw [← hG2, ← hG1]
  clear hG1 hG2
  go_loopw [17] (fun i wr => ∃ k : Nat, k ≤ 3 ∧ i = .int .i64 (k : Int) ∧ Cut.firstFit [z0, z1, z2] m b n d e 3 = Cut.firstFit [z0, z1, z2] m b n d e (3 - k) ∧ Hp5 (w.heap.size + 1) m b n d e wr ∧ B6 wr G1 #[.string x0, .bool g0, .string x1, .bool g1, .string x2, .bool g2] ∧ B3f wr G2 ∧ Below w.heap.size w wr) (fun i _ => (3 - intOf i).toNat)
  case atStart => exact ⟨0, by omega, rfl, rfl, hH, hrow, hW, BB⟩
  case round =>
    clear hH hrow hW BB
    obtain ⟨k, hk, rfl, hff, hH, hrow, hW, BB⟩ := hrel
    have HF := Lib.hid hff
    clear hff
    rcases (show k = 0 ∨ k = 1 ∨ k = 2 ∨ k = 3 by omega) with rfl | rfl | rfl | rfl
    · have hJ := Cut.impl_a x0 x1 x2 z0 z1 z2 g0 g1 g2 k0 k1 k2 n wr (by omega) (by omega) hxs
      have hts := join_small z0 z1 z2 (n := n) (by omega) (by omega) (-1) (by decide)
      have hFy := fun (h : (Cut.joinD [z0, z1, z2] (n : Int) (-1)).2 = true) (hf : Cut.fitsB m b n d e (Cut.joinD [z0, z1, z2] (n : Int) (-1)).1 = true) => first_yes (ys := [z0, z1, z2]) (a := (m : Int)) (b := b) (c := n) (d := d) (e := e) (m := 2) (lost := -1) (by decide) h hf
      have hFn := fun (h : ¬ ((Cut.joinD [z0, z1, z2] (n : Int) (-1)).2 = true ∧ Cut.fitsB m b n d e (Cut.joinD [z0, z1, z2] (n : Int) (-1)).1 = true)) => first_no (ys := [z0, z1, z2]) (a := (m : Int)) (b := b) (c := n) (d := d) (e := e) (m := 2) (lost := -1) (by decide) h
      unfold Cut.JoinPost at hJ
      obtain ⟨R, hR⟩ : ∃ R, R = Cut.joinD [z0, z1, z2] (n : Int) (-1) := ⟨_, rfl⟩
      rw [← hR] at hJ hts
      simp only [← hR] at hFy hFn
      obtain ⟨t, v⟩ := R
      clear hR
      simp only at hJ hts hFy hFn
      have hP := fun W => HPF.out t W (Nat.le_trans hts (by decide))
      have HFY := Lib.hid hFy
      have HFN := Lib.hid hFn
      obtain ⟨f0, _⟩ := hW.cell 0
      have f0 : wr.cell? ⟨G2, 0, none⟩ = some (.func (.func 124) #[] #[]) := f0
      obtain ⟨r0, _⟩ := hrow.cell 0
      obtain ⟨r1, _⟩ := hrow.cell 1
      obtain ⟨r2, _⟩ := hrow.cell 2
      obtain ⟨r3, _⟩ := hrow.cell 3
      obtain ⟨r4, _⟩ := hrow.cell 4
      obtain ⟨r5, _⟩ := hrow.cell 5
      simp at r0 r1 r2 r3 r4 r5
      obtain ⟨q0, q1, q2, q3, q4, q5, q6⟩ := id hH
      clear hFy hFn hts
      cases v
      · have HQ := Lib.hid (HF.out.trans (HFN.out (fun h => by cases h.1)))
        go_wp2_with (go_at_call 124; refine hJ.mono ?_; rintro r w4 ⟨rfl, hb4⟩; refine Hid.out ?_)
        refine Lib.hid ?_
        have HN := Lib.hid (hH.next hb4)
        have HO := Lib.hid (hrow.below hb4)
        have HW := Lib.hid (hW.below hb4)
        have HB := Lib.hid (bel_then BB hb4)
        clear q0 q1 q2 q3 q4 q5 q6 r0 r1 r2 r3 r4 r5 f0 hJ hP
        go_wp2_with fail
        go_roundw
        case rel => exact ⟨1, by omega, by go_num, HQ.out, HN.out, HO.out, HW.out, HB.out⟩
        case measure => simp [intOf]
      · cases hfb : Cut.fitsB m b n d e t
        · have HQ := Lib.hid (HF.out.trans (HFN.out (fun h => by rw [hfb] at h; cases h.2)))
          simp only [hfb] at hP
          clear hfb
          go_wp2_with (go_at_call 124; refine hJ.mono ?_; rintro r w4 ⟨rfl, hb4⟩; refine Hid.out ?_)
          refine Lib.hid ?_
          have hH4 := hH.next hb4
          have hrow4 := hrow.below hb4
          have hW4 := hW.below hb4
          have B4 := bel_then BB hb4
          clear q0 q1 q2 q3 q4 q5 q6 r0 r1 r2 r3 r4 r5 f0 hJ hH hrow hW BB hb4
          obtain ⟨q0, q1, q2, q3, q4, q5, q6⟩ := id hH4
          go_wp2_with (go_at_call 99; refine (hP _).mono ?_; rintro r w5 ⟨rfl, hb5⟩; refine Hid.out ?_)
          refine Lib.hid ?_
          have HN := Lib.hid (hH4.next hb5)
          have HO := Lib.hid (hrow4.below hb5)
          have HW := Lib.hid (hW4.below hb5)
          have HB := Lib.hid (bel_then B4 hb5)
          clear q0 q1 q2 q3 q4 q5 q6 hP
          go_wp2_with fail
          go_roundw
          case rel => exact ⟨1, by omega, by go_num, HQ.out, HN.out, HO.out, HW.out, HB.out⟩
          case measure => simp [intOf]
        · have HQ := Lib.hid (HFI.out.symm.trans (HF.out.trans (HFY.out rfl hfb)))
          simp only [hfb] at hP
          clear hfb
          go_wp2_with (go_at_call 124; refine hJ.mono ?_; rintro r w4 ⟨rfl, hb4⟩; refine Hid.out ?_)
          refine Lib.hid ?_
          have hH4 := hH.next hb4
          have B4 := bel_then BB hb4
          clear q0 q1 q2 q3 q4 q5 q6 r0 r1 r2 r3 r4 r5 f0 hJ hH hrow hW BB hb4
          obtain ⟨q0, q1, q2, q3, q4, q5, q6⟩ := id hH4
          go_wp2_with (go_at_call 99; refine (hP _).mono ?_; rintro r w5 ⟨rfl, hb5⟩)
          go_ret2
          exact ⟨by rw [HQ.out]; rfl, bel_then B4 hb5⟩
    · have hJ := Cut.impl_b x0 x1 x2 z0 z1 z2 g0 g1 g2 k0 k1 k2 n wr (by omega) (by omega) hxs
      have hts := join_small z0 z1 z2 (n := n) (by omega) (by omega) (0) (by decide)
      have hFy := fun (h : (Cut.joinD [z0, z1, z2] (n : Int) (0)).2 = true) (hf : Cut.fitsB m b n d e (Cut.joinD [z0, z1, z2] (n : Int) (0)).1 = true) => first_yes (ys := [z0, z1, z2]) (a := (m : Int)) (b := b) (c := n) (d := d) (e := e) (m := 1) (lost := 0) (by decide) h hf
      have hFn := fun (h : ¬ ((Cut.joinD [z0, z1, z2] (n : Int) (0)).2 = true ∧ Cut.fitsB m b n d e (Cut.joinD [z0, z1, z2] (n : Int) (0)).1 = true)) => first_no (ys := [z0, z1, z2]) (a := (m : Int)) (b := b) (c := n) (d := d) (e := e) (m := 1) (lost := 0) (by decide) h
      unfold Cut.JoinPost at hJ
      obtain ⟨R, hR⟩ : ∃ R, R = Cut.joinD [z0, z1, z2] (n : Int) (0) := ⟨_, rfl⟩
      rw [← hR] at hJ hts
      simp only [← hR] at hFy hFn
      obtain ⟨t, v⟩ := R
      clear hR
      simp only at hJ hts hFy hFn
      have hP := fun W => HPF.out t W (Nat.le_trans hts (by decide))
      have HFY := Lib.hid hFy
      have HFN := Lib.hid hFn
      obtain ⟨f0, _⟩ := hW.cell 1
      have f0 : wr.cell? ⟨G2, 1, none⟩ = some (.func (.func 125) #[] #[]) := f0
      obtain ⟨r0, _⟩ := hrow.cell 0
      obtain ⟨r1, _⟩ := hrow.cell 1
      obtain ⟨r2, _⟩ := hrow.cell 2
      obtain ⟨r3, _⟩ := hrow.cell 3
      obtain ⟨r4, _⟩ := hrow.cell 4
      obtain ⟨r5, _⟩ := hrow.cell 5
      simp at r0 r1 r2 r3 r4 r5
      obtain ⟨q0, q1, q2, q3, q4, q5, q6⟩ := id hH
      clear hFy hFn hts
      cases v
      · have HQ := Lib.hid (HF.out.trans (HFN.out (fun h => by cases h.1)))
        go_wp2_with (go_at_call 125; refine hJ.mono ?_; rintro r w4 ⟨rfl, hb4⟩; refine Hid.out ?_)
        refine Lib.hid ?_
        have HN := Lib.hid (hH.next hb4)
        have HO := Lib.hid (hrow.below hb4)
        have HW := Lib.hid (hW.below hb4)
        have HB := Lib.hid (bel_then BB hb4)
        clear q0 q1 q2 q3 q4 q5 q6 r0 r1 r2 r3 r4 r5 f0 hJ hP
        go_wp2_with fail
        go_roundw
        case rel => exact ⟨2, by omega, by go_num, HQ.out, HN.out, HO.out, HW.out, HB.out⟩
        case measure => simp [intOf]
      · cases hfb : Cut.fitsB m b n d e t
        · have HQ := Lib.hid (HF.out.trans (HFN.out (fun h => by rw [hfb] at h; cases h.2)))
          simp only [hfb] at hP
          clear hfb
          go_wp2_with (go_at_call 125; refine hJ.mono ?_; rintro r w4 ⟨rfl, hb4⟩; refine Hid.out ?_)
          refine Lib.hid ?_
          have hH4 := hH.next hb4
          have hrow4 := hrow.below hb4
          have hW4 := hW.below hb4
          have B4 := bel_then BB hb4
          clear q0 q1 q2 q3 q4 q5 q6 r0 r1 r2 r3 r4 r5 f0 hJ hH hrow hW BB hb4
          obtain ⟨q0, q1, q2, q3, q4, q5, q6⟩ := id hH4
          go_wp2_with (go_at_call 99; refine (hP _).mono ?_; rintro r w5 ⟨rfl, hb5⟩; refine Hid.out ?_)
          refine Lib.hid ?_
          have HN := Lib.hid (hH4.next hb5)
          have HO := Lib.hid (hrow4.below hb5)
          have HW := Lib.hid (hW4.below hb5)
          have HB := Lib.hid (bel_then B4 hb5)
          clear q0 q1 q2 q3 q4 q5 q6 hP
          go_wp2_with fail
          go_roundw
          case rel => exact ⟨2, by omega, by go_num, HQ.out, HN.out, HO.out, HW.out, HB.out⟩
          case measure => simp [intOf]
        · have HQ := Lib.hid (HFI.out.symm.trans (HF.out.trans (HFY.out rfl hfb)))
          simp only [hfb] at hP
          clear hfb
          go_wp2_with (go_at_call 125; refine hJ.mono ?_; rintro r w4 ⟨rfl, hb4⟩; refine Hid.out ?_)
          refine Lib.hid ?_
          have hH4 := hH.next hb4
          have B4 := bel_then BB hb4
          clear q0 q1 q2 q3 q4 q5 q6 r0 r1 r2 r3 r4 r5 f0 hJ hH hrow hW BB hb4
          obtain ⟨q0, q1, q2, q3, q4, q5, q6⟩ := id hH4
          go_wp2_with (go_at_call 99; refine (hP _).mono ?_; rintro r w5 ⟨rfl, hb5⟩)
          go_ret2
          exact ⟨by rw [HQ.out]; rfl, bel_then B4 hb5⟩
    · have hJ := Cut.impl_c x0 x1 x2 z0 z1 z2 g0 g1 g2 k0 k1 k2 n wr (by omega) (by omega) hxs
      have hts := join_small z0 z1 z2 (n := n) (by omega) (by omega) (1) (by decide)
      have hFy := fun (h : (Cut.joinD [z0, z1, z2] (n : Int) (1)).2 = true) (hf : Cut.fitsB m b n d e (Cut.joinD [z0, z1, z2] (n : Int) (1)).1 = true) => first_yes (ys := [z0, z1, z2]) (a := (m : Int)) (b := b) (c := n) (d := d) (e := e) (m := 0) (lost := 1) (by decide) h hf
      have hFn := fun (h : ¬ ((Cut.joinD [z0, z1, z2] (n : Int) (1)).2 = true ∧ Cut.fitsB m b n d e (Cut.joinD [z0, z1, z2] (n : Int) (1)).1 = true)) => first_no (ys := [z0, z1, z2]) (a := (m : Int)) (b := b) (c := n) (d := d) (e := e) (m := 0) (lost := 1) (by decide) h
      unfold Cut.JoinPost at hJ
      obtain ⟨R, hR⟩ : ∃ R, R = Cut.joinD [z0, z1, z2] (n : Int) (1) := ⟨_, rfl⟩
      rw [← hR] at hJ hts
      simp only [← hR] at hFy hFn
      obtain ⟨t, v⟩ := R
      clear hR
      simp only at hJ hts hFy hFn
      have hP := fun W => HPF.out t W (Nat.le_trans hts (by decide))
      have HFY := Lib.hid hFy
      have HFN := Lib.hid hFn
      obtain ⟨f0, _⟩ := hW.cell 2
      have f0 : wr.cell? ⟨G2, 2, none⟩ = some (.func (.func 126) #[] #[]) := f0
      obtain ⟨r0, _⟩ := hrow.cell 0
      obtain ⟨r1, _⟩ := hrow.cell 1
      obtain ⟨r2, _⟩ := hrow.cell 2
      obtain ⟨r3, _⟩ := hrow.cell 3
      obtain ⟨r4, _⟩ := hrow.cell 4
      obtain ⟨r5, _⟩ := hrow.cell 5
      simp at r0 r1 r2 r3 r4 r5
      obtain ⟨q0, q1, q2, q3, q4, q5, q6⟩ := id hH
      clear hFy hFn hts
      cases v
      · have HQ := Lib.hid (HF.out.trans (HFN.out (fun h => by cases h.1)))
        go_wp2_with (go_at_call 126; refine hJ.mono ?_; rintro r w4 ⟨rfl, hb4⟩; refine Hid.out ?_)
        refine Lib.hid ?_
        have HN := Lib.hid (hH.next hb4)
        have HO := Lib.hid (hrow.below hb4)
        have HW := Lib.hid (hW.below hb4)
        have HB := Lib.hid (bel_then BB hb4)
        clear q0 q1 q2 q3 q4 q5 q6 r0 r1 r2 r3 r4 r5 f0 hJ hP
        go_wp2_with fail
        go_roundw
        case rel => exact ⟨3, by omega, by go_num, HQ.out, HN.out, HO.out, HW.out, HB.out⟩
        case measure => simp [intOf]
      · cases hfb : Cut.fitsB m b n d e t
        · have HQ := Lib.hid (HF.out.trans (HFN.out (fun h => by rw [hfb] at h; cases h.2)))
          simp only [hfb] at hP
          clear hfb
          go_wp2_with (go_at_call 126; refine hJ.mono ?_; rintro r w4 ⟨rfl, hb4⟩; refine Hid.out ?_)
          refine Lib.hid ?_
          have hH4 := hH.next hb4
          have hrow4 := hrow.below hb4
          have hW4 := hW.below hb4
          have B4 := bel_then BB hb4
          clear q0 q1 q2 q3 q4 q5 q6 r0 r1 r2 r3 r4 r5 f0 hJ hH hrow hW BB hb4
          obtain ⟨q0, q1, q2, q3, q4, q5, q6⟩ := id hH4
          go_wp2_with (go_at_call 99; refine (hP _).mono ?_; rintro r w5 ⟨rfl, hb5⟩; refine Hid.out ?_)
          refine Lib.hid ?_
          have HN := Lib.hid (hH4.next hb5)
          have HO := Lib.hid (hrow4.below hb5)
          have HW := Lib.hid (hW4.below hb5)
          have HB := Lib.hid (bel_then B4 hb5)
          clear q0 q1 q2 q3 q4 q5 q6 hP
          go_wp2_with fail
          go_roundw
          case rel => exact ⟨3, by omega, by go_num, HQ.out, HN.out, HO.out, HW.out, HB.out⟩
          case measure => simp [intOf]
        · have HQ := Lib.hid (HFI.out.symm.trans (HF.out.trans (HFY.out rfl hfb)))
          simp only [hfb] at hP
          clear hfb
          go_wp2_with (go_at_call 126; refine hJ.mono ?_; rintro r w4 ⟨rfl, hb4⟩; refine Hid.out ?_)
          refine Lib.hid ?_
          have hH4 := hH.next hb4
          have B4 := bel_then BB hb4
          clear q0 q1 q2 q3 q4 q5 q6 r0 r1 r2 r3 r4 r5 f0 hJ hH hrow hW BB hb4
          obtain ⟨q0, q1, q2, q3, q4, q5, q6⟩ := id hH4
          go_wp2_with (go_at_call 99; refine (hP _).mono ?_; rintro r w5 ⟨rfl, hb5⟩)
          go_ret2
          exact ⟨by rw [HQ.out]; rfl, bel_then B4 hb5⟩
    · have HQ := Lib.hid (HFI.out.symm.trans HF.out)
      go_wp2_with fail
      go_ret2
      exact ⟨by rw [HQ.out]; rfl, BB⟩
end Go.Proofs.Ytndckncoipkhaaa
