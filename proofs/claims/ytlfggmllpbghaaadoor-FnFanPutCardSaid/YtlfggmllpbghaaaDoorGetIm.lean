/-
  readParts and PtrGet, the program's: what they answer at every text.
-/
import Derived.Test.YtlfggmllpbghaaaDoorParts
namespace Go.Proofs.YtlfggmllpbghaaaDoor
open Go.RowKit

theorem inum_yes (p : ByteArray) (W : World) (hp : p.size ≤ 1048576) (hE : Env W) (h : isNum p = true) : Calls Tryd.prog 64 #[.string p] W fun e w' => e = .returned (.tuple #[.int .i64 (numV p), .bool true]) ∧ Below W.heap.size W w' :=
  (impl_numget p W (by omega) hE.1 hE.2.1).mono fun e w' ⟨e1, e2⟩ => ⟨by rw [e1]; unfold isNum at h; rw [h]; rfl, e2⟩
theorem inum_no (p : ByteArray) (W : World) (hp : p.size ≤ 1048576) (hE : Env W) (h : ¬ isNum p = true) : Calls Tryd.prog 64 #[.string p] W fun e w' => e = .returned (.tuple #[.int .i64 (numV p), .bool false]) ∧ Below W.heap.size W w' :=
  (impl_numget p W (by omega) hE.1 hE.2.1).mono fun e w' ⟨e1, e2⟩ => ⟨by
    have h2 : (numG p.data.toList).2 = false := by simpa [isNum] using h
    rw [e1, h2]
    rfl, e2⟩
/-- The array behind j numbers. -/
def soFar (ps : List ByteArray) (j : Nat) : Nat → Int := fun k => if k < j then numV (ps.getD k ⟨#[]⟩) else 0
theorem soFar_set (ps : List ByteArray) (j : Nat) (p : ByteArray) (hj : j < ps.length) (hp : p = ps[j]) : soFar ps (j + 1) j = numV p ∧ ∀ i, i ≠ j → soFar ps (j + 1) i = soFar ps j i := by
  refine ⟨?_, fun i hi => ?_⟩
  · unfold soFar
    rw [if_pos (by omega), hp, List.getD_eq_getElem?_getD, List.getElem?_eq_getElem hj]
    rfl
  · unfold soFar
    by_cases h : i < j
    · rw [if_pos h, if_pos (by omega)]
    · rw [if_neg h, if_neg (by omega)]

set_option maxRecDepth 100000 in
set_option maxHeartbeats 2000000 in
theorem impl_parts (s : ByteArray) (w : World) (hs : s.size ≤ 1048576) (hE : Env w) :
    Calls Tryd.prog 48 #[.string s] w fun e w' => e = .returned (.tuple #[(parts s).1.val, .bool (parts s).2]) ∧ Below w.heap.size w w' := by
  have hC := fun W (hM : MaxL W) => splitN_any s 46 6 W hs hM (by decide) (by decide)
  rw [show ((6 : Nat) : Int) = 6 from rfl] at hC
  have hone := split_one 46 5 s (by decide)
  obtain ⟨qs, hqs⟩ : ∃ qs, qs = Lib.splitB ⟨#[46]⟩ 0 (min 6 (s.size + 1) - 1) s := ⟨_, rfl⟩
  rw [← hqs] at hC
  rw [show (5 : Nat) + 1 = 6 from rfl, ← hqs] at hone
  have hsz := cutsB_short 46 s
  have hpn := @parts_no s
  have hpy := @parts_yes s
  obtain ⟨ps, hps⟩ : ∃ ps, ps = cutsB 46 s := ⟨_, rfl⟩
  rw [← hps] at hone hsz hpn hpy
  obtain ⟨r, hr⟩ : ∃ r, r = parts s := ⟨_, rfl⟩
  rw [← hr] at hpn hpy ⊢
  clear hps hr hqs
  rcases hone with ⟨h5, rfl⟩ | ⟨h5, h5q⟩
  · have hq5 : ((qs.length : Int) != 5) = false := by rw [h5]; rfl
    go_enter Tryd.func48, Tryd.ntmps48
    go_wp2_with (go_at_call 56; refine (hC _ (hE.2.2.below (bel_fresh w))).mono ?_; rintro e w1 ⟨g, cp, rfl, hA, hb⟩; refine Hid.out ?_)
    refine Lib.hid ?_
    have Z := RBox.new hb
    have hbw : Below w.heap.size w w1 := bel_then (bel_fresh w) hb
    have hg1 : g < w1.heap.size := by
      obtain ⟨b, off, e, hlt, _⟩ := hA (by omega)
      cases e
      exact hlt
    have V := Vec.new w1
    have hbv := bel_then hbw (bel_fresh w1 (o := .cells #[.int .i64 0, .int .i64 0, .int .i64 0, .int .i64 0, .int .i64 0] 76))
    have Zv := Z.next (bel_fresh w1 (o := .cells #[.int .i64 0, .int .i64 0, .int .i64 0, .int .i64 0, .int .i64 0] 76))
    have hAv := hA.below (bel_fresh w1 (o := .cells #[.int .i64 0, .int .i64 0, .int .i64 0, .int .i64 0, .int .i64 0] 76))
    have zw := Z.lt
    have s0 := hbw.size
    clear hb hC hA Z
    go_wp2_with fail
    go_loopg [18] 5 (fun gh i wr => ∃ (j : Nat), gh = 5 - j ∧ j ≤ 5 ∧ i = .int .i64 j ∧ (∀ k (hk : k < qs.length), k < j → isNum qs[k] = true) ∧ Vec w1.heap.size (soFar qs j) wr ∧ RBox w.heap.size wr ∧ StrsAt wr (some ⟨g, 0, none⟩) qs ∧ Below w.heap.size w wr)
    case atStart => exact ⟨0, by omega, by omega, rfl, by omega, V, Zv, hAv, hbv⟩
    case round =>
      clear V Zv hAv hbv hbw
      obtain ⟨j, hg, hj, rfl, hnum, V, Z, hA, hb⟩ := hrel
      have HG := Lib.hid hg
      clear hg
      have s1 := hb.size
      have vl := V.lt
      by_cases hlt : j < 5
      · have hlt' : (j : Int) < 5 := by omega
        obtain ⟨b9, off9, e9, hlb, hc9⟩ := hA (by omega)
        obtain ⟨rfl, rfl⟩ : b9 = g ∧ off9 = 0 := by cases e9; exact ⟨rfl, rfl⟩
        have hck := hc9 j (by omega)
        rw [Nat.zero_add] at hck
        have hpj := hsz qs[j] (List.getElem_mem _)
        have hjp : j < qs.length := by omega
        by_cases hn : isNum qs[j] = true
        · have hN1 := inum_yes qs[j] wr (by omega) (hE.at hb) hn
          have HN : Hid (∀ k (hk : k < qs.length), k < j + 1 → isNum qs[k] = true) := Lib.hid (fun k hk hkj => by
            by_cases e : k = j
            · subst e; exact hn
            · exact hnum k hk (by omega))
          obtain ⟨p, hp⟩ : ∃ p, p = qs[j] := ⟨_, rfl⟩
          rw [← hp] at hN1 hck
          have HP := Lib.hid (soFar_set qs j p hjp hp)
          clear hpj hn hnum hp hc9 hpn hpy hsz e9
          go_wp2_with (go_at_call 64; refine hN1.mono ?_; rintro e w2 ⟨rfl, hb2⟩; have V2 := V.next hb2; have vc := V2.cell j hlt; have vf := V2.free j; have vl2 := V2.lt)
          have V3 := V2.set j (numV p) hlt HP.out.1 HP.out.2
          have Z3 := (Z.next hb2).set (B := w1.heap.size) (k := j) (by omega) (.int .i64 (numV p))
          have A3 := (hA.below hb2).set (B := w1.heap.size) (k := j) (by omega) (.int .i64 (numV p))
          have B3 := (bel_then hb hb2).setCell (p := ⟨w1.heap.size, j, none⟩) s0 (.int .i64 (numV p))
          clear V V2 Z hA hb hb2 vc vf hck hN1
          go_roundg (5 - (j + 1))
          case measure => have := HG.out; omega
          case rel => exact ⟨j + 1, rfl, by omega, by go_num, HN.out, V3, Z3, A3, B3⟩
        · have hN1 := inum_no qs[j] wr (by omega) (hE.at hb) hn
          have hv : r = (.zero, false) := hpn (fun h => hn (h.2 _ (List.getElem_mem hjp)))
          subst hv
          obtain ⟨p, hp⟩ : ∃ p, p = qs[j] := ⟨_, rfl⟩
          rw [← hp] at hN1 hck
          clear hpj hn hnum hp hc9 hpn hpy hsz e9
          go_wp2_with (go_at_call 64; refine hN1.mono ?_; rintro e w2 ⟨rfl, hb2⟩; have Z2 := Z.next hb2; have z0 := Z2.cell 0 (by decide); have z1 := Z2.cell 1 (by decide); have z2 := Z2.cell 2 (by decide); have z3 := Z2.cell 3 (by decide); have z4 := Z2.cell 4 (by decide); have f0 := Z2.free 0; have f1 := Z2.free 1; have f2 := Z2.free 2; have f3 := Z2.free 3; have f4 := Z2.free 4)
          refine bodyPost_ret (v := .tuple #[P5.zero.val, .bool false]) ?_ rfl ⟨rfl, bel_five (bel_then hb hb2) _ (Nat.le_refl _) _ _ _ _ _⟩
          rw [results_cell_tmp rfl]
          go_simp
          rfl
      · obtain rfl : j = 5 := by omega
        have hv := hpy h5 (nums_all fun k hk => hnum k hk (by omega))
        subst hv
        have c0 := V.cell 0 (by decide)
        have c1 := V.cell 1 (by decide)
        have c2 := V.cell 2 (by decide)
        have c3 := V.cell 3 (by decide)
        have c4 := V.cell 4 (by decide)
        rw [show soFar qs 5 0 = (five qs).a from rfl] at c0
        rw [show soFar qs 5 1 = (five qs).b from rfl] at c1
        rw [show soFar qs 5 2 = (five qs).c from rfl] at c2
        rw [show soFar qs 5 3 = (five qs).d from rfl] at c3
        rw [show soFar qs 5 4 = (five qs).e from rfl] at c4
        obtain ⟨a, b, c, d, e, hq⟩ : ∃ a b c d e, five qs = ⟨a, b, c, d, e⟩ := ⟨_, _, _, _, _, rfl⟩
        rw [hq] at c0 c1 c2 c3 c4
        have HQ := Lib.hid hq
        have z0 := Z.cell 0 (by decide)
        have z1 := Z.cell 1 (by decide)
        have z2 := Z.cell 2 (by decide)
        have z3 := Z.cell 3 (by decide)
        have z4 := Z.cell 4 (by decide)
        have f0 := Z.free 0
        have f1 := Z.free 1
        have f2 := Z.free 2
        have f3 := Z.free 3
        have f4 := Z.free 4
        clear hnum hpn hq
        go_wp2_with fail
        refine bodyPost_ret (v := .tuple #[P5.val ⟨a, b, c, d, e⟩, .bool true]) ?_ rfl ⟨by rw [HQ.out], bel_five hb _ (Nat.le_refl _) _ _ _ _ _⟩
        rw [results_cell_tmp rfl]
        go_simp
        rfl
  · have hv : r = (.zero, false) := hpn (fun h => h5 h.1)
    have hq5 : ((qs.length : Int) != 5) = true := by rw [bne_iff_ne]; omega
    rw [hv]
    clear hv h5 h5q hpn hpy hsz
    go_enter Tryd.func48, Tryd.ntmps48
    go_wp2_with (go_at_call 56; refine (hC _ (hE.2.2.below (bel_fresh w))).mono ?_; rintro e w1 ⟨g, cp, rfl, hA, hb⟩; have Z := RBox.new hb; have z0 := Z.cell 0 (by decide); have z1 := Z.cell 1 (by decide); have z2 := Z.cell 2 (by decide); have z3 := Z.cell 3 (by decide); have z4 := Z.cell 4 (by decide); have f0 := Z.free 0; have f1 := Z.free 1; have f2 := Z.free 2; have f3 := Z.free 3; have f4 := Z.free 4)
    refine bodyPost_ret (v := .tuple #[P5.zero.val, .bool false]) ?_ rfl ⟨rfl, bel_five (bel_then (bel_fresh w) hb) _ (Nat.le_refl _) _ _ _ _ _⟩
    rw [results_cell_tmp rfl]
    go_simp
    rfl

set_option maxRecDepth 100000 in
set_option maxHeartbeats 2000000 in
theorem impl_pget (s : ByteArray) (w : World) (hs : s.size ≤ 1048576) (hE : Env w) :
    Calls Tryd.prog 23 #[.string s] w fun e w' => e = .returned (.tuple #[(ptrG s).1.val, .bool (ptrG s).2]) ∧ Below w.heap.size w w' := by
  by_cases h1 : s = ⟨#[45]⟩
  · subst h1
    rw [ptrG_hole]
    go_enter Tryd.func23, Tryd.ntmps23
    go_wp2
    refine bodyPost_ret (v := .tuple #[P5.zero.val, .bool true]) ?_ rfl ⟨rfl, (by repeat' (first | exact Below.refl _ _ | refine bel_new ?_ _ | refine Below.drew ?_))⟩
    rw [results_cell_tmp rfl]
    go_simp
    rfl
  · have hq0 := str45 h1
    have hP := impl_parts s (w.alloc (.cells #[.int .i64 0, .int .i64 0, .int .i64 0, .int .i64 0, .int .i64 0] 24)) hs (hE.at (bel_fresh w))
    have hno := @ptrG_no s h1
    have hbad := @ptrG_bad s h1
    have hzero := @ptrG_zero s h1
    have hyes := @ptrG_yes s h1
    obtain ⟨r, hr⟩ : ∃ r, r = ptrG s := ⟨_, rfl⟩
    rw [← hr] at hno hbad hzero hyes ⊢
    obtain ⟨⟨⟨a, b, c, d, e⟩, o⟩, hq⟩ : ∃ q, q = parts s := ⟨_, rfl⟩
    rw [← hq] at hP hno hbad hzero hyes
    have hO : ∀ W, Calls Tryd.prog 42 #[.agg #[.int .i64 a, .int .i64 b, .int .i64 c, .int .i64 d, .int .i64 e]] W fun r w' => r = .returned (.bool (isOk a b c d e)) ∧ Below W.heap.size W w' := fun W => (m_ok a b c d e W).mono fun r w' ⟨h1, h2⟩ => ⟨h1, h2 ▸ bel_new (bel_new (Below.refl _ _) _) _⟩
    have hM : ∀ W, Calls Tryd.prog 46 #[.agg #[.int .i64 a, .int .i64 b, .int .i64 c, .int .i64 d, .int .i64 e]] W fun r w' => r = .returned (.bool (isHole a b c d e)) ∧ Below W.heap.size W w' := fun W => (m_hole a b c d e W).mono fun r w' ⟨h1, h2⟩ => ⟨h1, h2 ▸ bel_new (Below.refl _ _) _⟩
    have hP2 : Calls Tryd.prog 48 #[.string s] (w.alloc (.cells #[.int .i64 0, .int .i64 0, .int .i64 0, .int .i64 0, .int .i64 0] 24)) fun e' w' => e' = .returned (.tuple #[.agg #[.int .i64 a, .int .i64 b, .int .i64 c, .int .i64 d, .int .i64 e], .bool o]) ∧ Below (w.alloc (.cells #[.int .i64 0, .int .i64 0, .int .i64 0, .int .i64 0, .int .i64 0] 24)).heap.size (w.alloc (.cells #[.int .i64 0, .int .i64 0, .int .i64 0, .int .i64 0, .int .i64 0] 24)) w' := hP
    clear h1 hr hq hE hP
    cases o
    · have hv : r = (.zero, false) := hno rfl
      subst hv
      clear hno hbad hzero hyes
      go_enter Tryd.func23, Tryd.ntmps23
      go_wp2_with (first | (go_at_call 48; refine hP2.mono ?_; rintro e w1 ⟨rfl, hb⟩; have hbw := bel_then (bel_fresh w) hb; have H9 := HP.new w1 a b c d e 24; have yb := H9.2.2.2.2.2.2; have Z := RBox.new hb; have Z1 := Z.next H9.2.2.2.2.2.2; have z0 := Z1.cell 0 (by decide); have z1 := Z1.cell 1 (by decide); have z2 := Z1.cell 2 (by decide); have z3 := Z1.cell 3 (by decide); have z4 := Z1.cell 4 (by decide); have f0 := Z1.free 0; have f1 := Z1.free 1; have f2 := Z1.free 2; have f3 := Z1.free 3; have f4 := Z1.free 4) | (go_at_call 42; refine (hO _).mono ?_; rintro e w5 ⟨rfl, hb5⟩; have H5 := H9.next hb5; obtain ⟨y0, y1, y2, y3, y4, yl, yb⟩ := id H5; have Z5 := Z.next H5.2.2.2.2.2.2; have z0 := Z5.cell 0 (by decide); have z1 := Z5.cell 1 (by decide); have z2 := Z5.cell 2 (by decide); have z3 := Z5.cell 3 (by decide); have z4 := Z5.cell 4 (by decide); have f0 := Z5.free 0; have f1 := Z5.free 1; have f2 := Z5.free 2; have f3 := Z5.free 3; have f4 := Z5.free 4) | (go_at_call 46; refine (hM _).mono ?_; rintro e w6 ⟨rfl, hb6⟩; have H6 := H5.next hb6; obtain ⟨y0, y1, y2, y3, y4, yl, yb⟩ := id H6; have Z6 := Z.next H6.2.2.2.2.2.2; have z0 := Z6.cell 0 (by decide); have z1 := Z6.cell 1 (by decide); have z2 := Z6.cell 2 (by decide); have z3 := Z6.cell 3 (by decide); have z4 := Z6.cell 4 (by decide); have f0 := Z6.free 0; have f1 := Z6.free 1; have f2 := Z6.free 2; have f3 := Z6.free 3; have f4 := Z6.free 4))
      refine bodyPost_ret (v := .tuple #[P5.zero.val, .bool false]) ?_ rfl ⟨rfl, bel_five (bel_then hbw yb) _ (Nat.le_refl _) _ _ _ _ _⟩
      rw [results_cell_tmp rfl]
      go_simp
      rfl
    · by_cases hk : isOk a b c d e = true
      · by_cases hh : isHole a b c d e = true
        · have hv : r = (.zero, false) := hzero hh
          subst hv
          rw [hk] at hO
          rw [hh] at hM
          clear hk hh hno hbad hzero hyes
          go_enter Tryd.func23, Tryd.ntmps23
          go_wp2_with (first | (go_at_call 48; refine hP2.mono ?_; rintro e w1 ⟨rfl, hb⟩; have hbw := bel_then (bel_fresh w) hb; have H9 := HP.new w1 a b c d e 24; have yb := H9.2.2.2.2.2.2; have Z := RBox.new hb; have Z1 := Z.next H9.2.2.2.2.2.2; have z0 := Z1.cell 0 (by decide); have z1 := Z1.cell 1 (by decide); have z2 := Z1.cell 2 (by decide); have z3 := Z1.cell 3 (by decide); have z4 := Z1.cell 4 (by decide); have f0 := Z1.free 0; have f1 := Z1.free 1; have f2 := Z1.free 2; have f3 := Z1.free 3; have f4 := Z1.free 4) | (go_at_call 42; refine (hO _).mono ?_; rintro e w5 ⟨rfl, hb5⟩; have H5 := H9.next hb5; obtain ⟨y0, y1, y2, y3, y4, yl, yb⟩ := id H5; have Z5 := Z.next H5.2.2.2.2.2.2; have z0 := Z5.cell 0 (by decide); have z1 := Z5.cell 1 (by decide); have z2 := Z5.cell 2 (by decide); have z3 := Z5.cell 3 (by decide); have z4 := Z5.cell 4 (by decide); have f0 := Z5.free 0; have f1 := Z5.free 1; have f2 := Z5.free 2; have f3 := Z5.free 3; have f4 := Z5.free 4) | (go_at_call 46; refine (hM _).mono ?_; rintro e w6 ⟨rfl, hb6⟩; have H6 := H5.next hb6; obtain ⟨y0, y1, y2, y3, y4, yl, yb⟩ := id H6; have Z6 := Z.next H6.2.2.2.2.2.2; have z0 := Z6.cell 0 (by decide); have z1 := Z6.cell 1 (by decide); have z2 := Z6.cell 2 (by decide); have z3 := Z6.cell 3 (by decide); have z4 := Z6.cell 4 (by decide); have f0 := Z6.free 0; have f1 := Z6.free 1; have f2 := Z6.free 2; have f3 := Z6.free 3; have f4 := Z6.free 4))
          refine bodyPost_ret (v := .tuple #[P5.zero.val, .bool false]) ?_ rfl ⟨rfl, bel_five (bel_then hbw yb) _ (Nat.le_refl _) _ _ _ _ _⟩
          rw [results_cell_tmp rfl]
          go_simp
          rfl
        · have hh' : isHole a b c d e = false := by simpa using hh
          have hv : r = (⟨a, b, c, d, e⟩, true) := hyes rfl hk hh'
          subst hv
          rw [hk] at hO
          rw [hh'] at hM
          clear hk hh hh' hno hbad hzero hyes
          go_enter Tryd.func23, Tryd.ntmps23
          go_wp2_with (first | (go_at_call 48; refine hP2.mono ?_; rintro e w1 ⟨rfl, hb⟩; have hbw := bel_then (bel_fresh w) hb; have H9 := HP.new w1 a b c d e 24; have yb := H9.2.2.2.2.2.2; have Z := RBox.new hb; have Z1 := Z.next H9.2.2.2.2.2.2; have z0 := Z1.cell 0 (by decide); have z1 := Z1.cell 1 (by decide); have z2 := Z1.cell 2 (by decide); have z3 := Z1.cell 3 (by decide); have z4 := Z1.cell 4 (by decide); have f0 := Z1.free 0; have f1 := Z1.free 1; have f2 := Z1.free 2; have f3 := Z1.free 3; have f4 := Z1.free 4) | (go_at_call 42; refine (hO _).mono ?_; rintro e w5 ⟨rfl, hb5⟩; have H5 := H9.next hb5; obtain ⟨y0, y1, y2, y3, y4, yl, yb⟩ := id H5; have Z5 := Z.next H5.2.2.2.2.2.2; have z0 := Z5.cell 0 (by decide); have z1 := Z5.cell 1 (by decide); have z2 := Z5.cell 2 (by decide); have z3 := Z5.cell 3 (by decide); have z4 := Z5.cell 4 (by decide); have f0 := Z5.free 0; have f1 := Z5.free 1; have f2 := Z5.free 2; have f3 := Z5.free 3; have f4 := Z5.free 4) | (go_at_call 46; refine (hM _).mono ?_; rintro e w6 ⟨rfl, hb6⟩; have H6 := H5.next hb6; obtain ⟨y0, y1, y2, y3, y4, yl, yb⟩ := id H6; have Z6 := Z.next H6.2.2.2.2.2.2; have z0 := Z6.cell 0 (by decide); have z1 := Z6.cell 1 (by decide); have z2 := Z6.cell 2 (by decide); have z3 := Z6.cell 3 (by decide); have z4 := Z6.cell 4 (by decide); have f0 := Z6.free 0; have f1 := Z6.free 1; have f2 := Z6.free 2; have f3 := Z6.free 3; have f4 := Z6.free 4))
          refine bodyPost_ret (v := .tuple #[P5.val ⟨a, b, c, d, e⟩, .bool true]) ?_ rfl ⟨rfl, bel_five (bel_then hbw yb) _ (Nat.le_refl _) _ _ _ _ _⟩
          rw [results_cell_tmp rfl]
          go_simp
          rfl
      · have hk' : isOk a b c d e = false := by simpa using hk
        have hv : r = (.zero, false) := hbad hk'
        subst hv
        rw [hk'] at hO
        clear hk hk' hno hbad hzero hyes
        go_enter Tryd.func23, Tryd.ntmps23
        go_wp2_with (first | (go_at_call 48; refine hP2.mono ?_; rintro e w1 ⟨rfl, hb⟩; have hbw := bel_then (bel_fresh w) hb; have H9 := HP.new w1 a b c d e 24; have yb := H9.2.2.2.2.2.2; have Z := RBox.new hb; have Z1 := Z.next H9.2.2.2.2.2.2; have z0 := Z1.cell 0 (by decide); have z1 := Z1.cell 1 (by decide); have z2 := Z1.cell 2 (by decide); have z3 := Z1.cell 3 (by decide); have z4 := Z1.cell 4 (by decide); have f0 := Z1.free 0; have f1 := Z1.free 1; have f2 := Z1.free 2; have f3 := Z1.free 3; have f4 := Z1.free 4) | (go_at_call 42; refine (hO _).mono ?_; rintro e w5 ⟨rfl, hb5⟩; have H5 := H9.next hb5; obtain ⟨y0, y1, y2, y3, y4, yl, yb⟩ := id H5; have Z5 := Z.next H5.2.2.2.2.2.2; have z0 := Z5.cell 0 (by decide); have z1 := Z5.cell 1 (by decide); have z2 := Z5.cell 2 (by decide); have z3 := Z5.cell 3 (by decide); have z4 := Z5.cell 4 (by decide); have f0 := Z5.free 0; have f1 := Z5.free 1; have f2 := Z5.free 2; have f3 := Z5.free 3; have f4 := Z5.free 4) | (go_at_call 46; refine (hM _).mono ?_; rintro e w6 ⟨rfl, hb6⟩; have H6 := H5.next hb6; obtain ⟨y0, y1, y2, y3, y4, yl, yb⟩ := id H6; have Z6 := Z.next H6.2.2.2.2.2.2; have z0 := Z6.cell 0 (by decide); have z1 := Z6.cell 1 (by decide); have z2 := Z6.cell 2 (by decide); have z3 := Z6.cell 3 (by decide); have z4 := Z6.cell 4 (by decide); have f0 := Z6.free 0; have f1 := Z6.free 1; have f2 := Z6.free 2; have f3 := Z6.free 3; have f4 := Z6.free 4))
        refine bodyPost_ret (v := .tuple #[P5.zero.val, .bool false]) ?_ rfl ⟨rfl, bel_five (bel_then hbw yb) _ (Nat.le_refl _) _ _ _ _ _⟩
        rw [results_cell_tmp rfl]
        go_simp
        rfl

end Go.Proofs.YtlfggmllpbghaaaDoor
