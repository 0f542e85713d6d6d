/-
  l4Read: what a pointer leads to, as the reference reads it.
-/
import Derived.Test.YtndckncoipkhaaaRPj
namespace Go.Proofs.Ytndckncoipkhaaa
open Go.RowKit

def big0 : ByteArray := ⟨Array.replicate 200 0⟩
/-- What a disk has of a row; one that is gone, a text that fits nothing. -/
def zed (d : Dk) (n : Int) : ByteArray := if d.gone = true then big0 else latest d n
theorem zed_col (d : Dk) (n : Int) : Cut.Col (latest d n) (!d.gone) (zed d n) := by
  unfold zed
  cases d.gone
  · exact ⟨fun _ => rfl, fun h => (by cases h)⟩
  · exact ⟨fun h => (by cases h), fun _ => by show big0.data.size = 200; simp [big0]⟩
theorem rd_small {ws : List Wt} {n : Int} {z : ByteArray} (hz : z.size ≤ 200) (hw : ∀ x ∈ ws, x.text.size ≤ 200) : ∀ k, (rd ws n z k).size ≤ 200
  | 0 => hz
  | k + 1 => by
    unfold rd
    split
    · rename_i x hx
      split
      · exact hw x (List.mem_of_getElem? hx)
      · exact rd_small hz hw k
    · exact rd_small hz hw k
theorem latest_small {d : Dk} (h : DkOk d) (n : Int) : (latest d n).size ≤ 200 := by
  obtain ⟨_, _, _, hsm, hws⟩ := h
  refine rd_small ?_ (fun x hx => (hws x hx).2.2) _
  by_cases hi : n.toNat < d.cells.length
  · rw [List.getD_eq_getElem?_getD, List.getElem?_eq_getElem hi]
    exact hsm _ (List.getElem_mem hi)
  · rw [List.getD_eq_getElem?_getD, List.getElem?_eq_none (by omega)]
    exact Nat.zero_le _
theorem col_small {d : Dk} (h : DkOk d) {n : Int} {y : ByteArray} (hc : ColD d n y) : y.size ≤ 200 := by
  cases hg : d.gone
  · rw [hc.yes (by rw [hg]; rfl)]
    exact latest_small h n
  · exact Nat.le_of_eq (hc.no (by rw [hg]; rfl))
theorem join_small (y0 y1 y2 : ByteArray) {n : Nat} (h1 : 1 ≤ n) (h2 : n ≤ 128) (lost : Int) (hl : lost = -1 ∨ lost = 0 ∨ lost = 1) : (Cut.joinD [y0, y1, y2] (n : Int) lost).1.size ≤ 1000 := by
  have hh := Cut.half_le n
  rcases hl with rfl | rfl | rfl
  · by_cases f : y0.size = Cut.half n ∧ y1.size = n - Cut.half n
    · rw [Cut.way_a h1 h2 f.1 f.2]
      simp only [ByteArray.size_append]
      omega
    · rw [Cut.way_a_no h1 h2 f]
      exact Nat.zero_le _
  · by_cases f : y1.size = n - Cut.half n ∧ y2.size = Cut.half n
    · rw [Cut.way_b h1 h2 f.1 f.2]
      simp only [ByteArray.size_append, Cut.strOf_size, Cut.mixL_len]
      omega
    · rw [Cut.way_b_no h1 h2 f]
      exact Nat.zero_le _
  · by_cases f : y0.size = Cut.half n ∧ y2.size = Cut.half n
    · rw [Cut.way_c h1 h2 f.1 f.2]
      simp only [ByteArray.size_append, Cut.strOf_size, Cut.mixL_len]
      omega
    · rw [Cut.way_c_no h1 h2 f]
      exact Nat.zero_le _
theorem first_yes {ys : List ByteArray} {a b c d e : Int} {m : Nat} {lost : Int} (hl : lost = 1 - (m : Int)) (h : (Cut.joinD ys c lost).2 = true) (hf : Cut.fitsB a b c d e (Cut.joinD ys c lost).1 = true) : Cut.firstFit ys a b c d e (m + 1) = ((Cut.joinD ys c lost).1, true) := by
  subst hl
  unfold Cut.firstFit
  exact if_pos ⟨h, hf⟩
theorem first_no {ys : List ByteArray} {a b c d e : Int} {m : Nat} {lost : Int} (hl : lost = 1 - (m : Int)) (h : ¬ ((Cut.joinD ys c lost).2 = true ∧ Cut.fitsB a b c d e (Cut.joinD ys c lost).1 = true)) : Cut.firstFit ys a b c d e (m + 1) = Cut.firstFit ys a b c d e m := by
  subst hl
  conv => lhs; unfold Cut.firstFit
  exact if_neg h
/-- A block of five numbers. -/
def Hp5 (g : Nat) (a b c d e : Int) (W : World) : Prop :=
  W.cell? ⟨g, 0, none⟩ = some (.int .i64 a) ∧ W.cell? ⟨g, 1, none⟩ = some (.int .i64 b) ∧ W.cell? ⟨g, 2, none⟩ = some (.int .i64 c) ∧ W.cell? ⟨g, 3, none⟩ = some (.int .i64 d) ∧ W.cell? ⟨g, 4, none⟩ = some (.int .i64 e) ∧ g < W.heap.size ∧ True
theorem Hp5.next {W W' : World} {g : Nat} {a b c d e : Int} (h : Hp5 g a b c d e W) (hb : Below W.heap.size W W') : Hp5 g a b c d e W' := by
  obtain ⟨h0, h1, h2, h3, h4, hl, _⟩ := h
  exact ⟨(hb.cell hl).trans h0, (hb.cell hl).trans h1, (hb.cell hl).trans h2, (hb.cell hl).trans h3, (hb.cell hl).trans h4, Nat.lt_of_lt_of_le hl hb.size, trivial⟩
/-- What is read by a valid pointer that is no hole, of valid disks. -/
def readP (p0 p1 p2 : RD) (a b c d e : Int) : ByteArray × Bool := Cut.firstFit [zed p0.d a, zed p1.d a, zed p2.d a] a b c d e 3

set_option maxRecDepth 100000 in
set_option maxHeartbeats 4000000 in
theorem spec_read (A : Option Addr) (cap : Nat) (p0 p1 p2 : RD) (a b c d e : Int) (w : World) (hok : RsOk (dks [p0, p1, p2])) (hf : ∀ p ∈ [p0, p1, p2], Bulk p.d) (hA : RAt w A [p0, p1, p2]) (ha : 8 ≤ a ∧ a ≤ 63) (hc : 1 ≤ c ∧ c ≤ 128) :
    Calls Try.prog 58 #[.agg #[.slice A 3 cap], .agg #[.int .i64 a, .int .i64 b, .int .i64 c, .int .i64 d, .int .i64 e]] w fun r w' => r = .returned (.tuple #[.string (readP p0 p1 p2 a b c d e).1, .bool (readP p0 p1 p2 a b c d e).2]) ∧ Below w.heap.size w w' := by
  obtain ⟨n, rfl⟩ : ∃ n : Nat, c = n := ⟨c.toNat, by omega⟩
  have bl : Below w.heap.size w ((w.alloc (.cells #[.slice A 3 cap] 24)).alloc (.cells #[.int .i64 a, .int .i64 b, .int .i64 n, .int .i64 d, .int .i64 e] 43)) := bel_new (bel_new (Below.refl _ _) _) _
  have hH := Cut.HP.new (w.alloc (.cells #[.slice A 3 cap] 24)) a b n d e 43
  have hC := spec_cols A cap [p0, p1, p2] a _ hok hf (hA.below bl) (by omega)
  have hd0 : DkOk p0.d := hok.2 _ (by simp [dks])
  have hd1 : DkOk p1.d := hok.2 _ (by simp [dks])
  have hd2 : DkOk p2.d := hok.2 _ (by simp [dks])
  clear hok hf hA
  go_enter Try.func58, Try.ntmps58
  go_wp2_with (go_at_call 94; refine hC.mono ?_; rintro r w2 ⟨ys, C, cc, rfl, hyl, hcol, ho, hb2⟩; refine Hid.out ?_)
  refine Lib.hid ?_
  obtain ⟨y0, y1, y2, rfl⟩ : ∃ y0 y1 y2, ys = [y0, y1, y2] := by
    match ys, hyl with
    | [a, b, c], _ => exact ⟨a, b, c, rfl⟩
  have k0 : ColD p0.d a y0 := hcol 0 (by simp) (by simp)
  have k1 : ColD p1.d a y1 := hcol 1 (by simp) (by simp)
  have k2 : ColD p2.d a y2 := hcol 2 (by simp) (by simp)
  have hys : ∀ s ∈ [y0, y1, y2], s.size ≤ maxLen := fun s hs => by
    simp only [List.mem_cons, List.not_mem_nil, or_false] at hs
    rcases hs with rfl | rfl | rfl
    · exact Nat.le_trans (col_small hd0 k0) (by decide)
    · exact Nat.le_trans (col_small hd1 k1) (by decide)
    · exact Nat.le_trans (col_small hd2 k2) (by decide)
  have HFI : Hid (Cut.firstFit [y0, y1, y2] a b n d e 3 = readP p0 p1 p2 a b n d e) := Lib.hid (Cut.first_col k0 k1 k2 (zed_col _ _) (zed_col _ _) (zed_col _ _) (by omega) (by omega) a b d e 3 (Nat.le_refl _))
  have hH := hH.next hb2
  have BB := bel_then bl hb2
  have hzn : ((w.alloc (.cells #[.slice A 3 cap] 24)).alloc (.cells #[.int .i64 a, .int .i64 b, .int .i64 n, .int .i64 d, .int .i64 e] 43)).heap.size = w.heap.size + 1 + 1 := by simp
  rw [hzn] at ho
  obtain ⟨W1, hW1⟩ : ∃ W1, W1 = w.alloc (.cells #[.slice A 3 cap] 24) := ⟨_, rfl⟩
  rw [← hW1] at hH
  have hz1 : W1.heap.size = w.heap.size + 1 := by rw [hW1, World.size_alloc]
  have HZ := Lib.hid hz1
  unfold Cut.HP at hH
  clear hyl hcol k0 k1 k2 hd0 hd1 hd2 hC hb2 bl hzn hW1
  rw [hz1] at hH
  clear hz1
  have hH : Hp5 (w.heap.size + 1) a b n d e w2 := ⟨hH.1, hH.2.1, hH.2.2.1, hH.2.2.2.1, hH.2.2.2.2.1, hH.2.2.2.2.2.1, trivial⟩
  go_wp2_with fail
  go_loopw [7] (fun i wr => ∃ k : Nat, k ≤ 3 ∧ i = .int .i64 ((k : Int) - 1) ∧ Cut.firstFit [y0, y1, y2] a b n d e 3 = Cut.firstFit [y0, y1, y2] a b n d e (3 - k) ∧ Hp5 (w.heap.size + 1) a b n d e wr ∧ wr.ownsRow (w.heap.size + 1 + 1) 9 1 (.slice C 3 cc) 3 (strCells [y0, y1, y2]) ∧ Below w.heap.size w wr) (fun i _ => (2 - intOf i).toNat)
  case atStart => exact ⟨0, by omega, rfl, rfl, hH, ho, BB⟩
  case round =>
    clear hH ho BB
    obtain ⟨k, hk, rfl, hff, hH, ho, BB⟩ := hrel
    have HF := Lib.hid hff
    clear hff
    obtain ⟨A', c', ee, hlc⟩ := own_lies ho
    cases ee
    rcases (show k = 0 ∨ k = 1 ∨ k = 2 ∨ k = 3 by omega) with rfl | rfl | rfl | rfl
    · have hJ := Cut.spec_join C cc [y0, y1, y2] (n : Int) (-1) wr (show 3 ≤ maxLen by decide) hys (show Cut.Lies wr C (Cut.strCells [y0, y1, y2]) from hlc)
      have hts := join_small y0 y1 y2 (n := n) (by omega) (by omega) (-1) (by decide)
      have hFy := fun (h : (Cut.joinD [y0, y1, y2] (n : Int) (-1)).2 = true) (hf : Cut.fitsB a b n d e (Cut.joinD [y0, y1, y2] (n : Int) (-1)).1 = true) => first_yes (ys := [y0, y1, y2]) (a := a) (b := b) (c := n) (d := d) (e := e) (m := 2) (lost := -1) (by decide) h hf
      have hFn := fun (h : ¬ ((Cut.joinD [y0, y1, y2] (n : Int) (-1)).2 = true ∧ Cut.fitsB a b n d e (Cut.joinD [y0, y1, y2] (n : Int) (-1)).1 = true)) => first_no (ys := [y0, y1, y2]) (a := a) (b := b) (c := n) (d := d) (e := e) (m := 2) (lost := -1) (by decide) h
      unfold Cut.JoinPost at hJ
      obtain ⟨R, hR⟩ : ∃ R, R = Cut.joinD [y0, y1, y2] (n : Int) (-1) := ⟨_, rfl⟩
      rw [← hR] at hJ hts
      simp only [← hR] at hFy hFn
      obtain ⟨t, v⟩ := R
      clear hR
      simp only at hJ hts hFy hFn
      have hP := fun W => Cut.spec_fits a b n d e t W (Nat.le_trans hts (by decide))
      have HFY := Lib.hid hFy
      have HFN := Lib.hid hFn
      clear hFy hFn hts
      cases v
      · have HQ := Lib.hid (HF.out.trans (HFN.out (fun h => by cases h.1)))
        obtain ⟨q0, q1, q2, q3, q4, q5, q6⟩ := id hH
        go_wp2_with (go_at_call 95; refine hJ.mono ?_; rintro r w4 ⟨rfl, hb4⟩; refine Hid.out ?_)
        refine Lib.hid ?_
        have HN := Lib.hid (hH.next hb4)
        have HO := Lib.hid (own_bel ho hb4)
        have HB := Lib.hid (bel_then BB hb4)
        clear q0 q1 q2 q3 q4 q5 q6 hJ hP
        go_wp2_with fail
        go_roundw
        case rel => exact ⟨1, by omega, by go_num, HQ.out, HN.out, HO.out, HB.out⟩
        case measure => simp [intOf]
      · cases hfb : Cut.fitsB a b n d e t
        · have HQ := Lib.hid (HF.out.trans (HFN.out (fun h => by rw [hfb] at h; cases h.2)))
          simp only [hfb] at hP
          clear hfb
          obtain ⟨q0, q1, q2, q3, q4, q5, q6⟩ := id hH
          go_wp2_with (go_at_call 95; refine hJ.mono ?_; rintro r w4 ⟨rfl, hb4⟩; refine Hid.out ?_)
          refine Lib.hid ?_
          have hH4 := hH.next hb4
          have ho4 := own_bel ho hb4
          have B4 := bel_then BB hb4
          clear q0 q1 q2 q3 q4 q5 q6 hJ hH ho BB hb4
          obtain ⟨q0, q1, q2, q3, q4, q5, q6⟩ := id hH4
          go_wp2_with (go_at_call 96; refine (hP _).mono ?_; rintro r w5 ⟨rfl, hb5⟩; refine Hid.out ?_)
          refine Lib.hid ?_
          have HN := Lib.hid (hH4.next hb5)
          have HO := Lib.hid (own_bel ho4 hb5)
          have HB := Lib.hid (bel_then B4 hb5)
          clear q0 q1 q2 q3 q4 q5 q6 hP
          go_wp2_with fail
          go_roundw
          case rel => exact ⟨1, by omega, by go_num, HQ.out, HN.out, HO.out, HB.out⟩
          case measure => simp [intOf]
        · have HQ := Lib.hid (HFI.out.symm.trans (HF.out.trans (HFY.out rfl hfb)))
          simp only [hfb] at hP
          clear hfb
          obtain ⟨q0, q1, q2, q3, q4, q5, q6⟩ := id hH
          go_wp2_with (go_at_call 95; refine hJ.mono ?_; rintro r w4 ⟨rfl, hb4⟩; refine Hid.out ?_)
          refine Lib.hid ?_
          have hH4 := hH.next hb4
          have B4 := bel_then BB hb4
          clear q0 q1 q2 q3 q4 q5 q6 hJ hH ho BB hb4
          obtain ⟨q0, q1, q2, q3, q4, q5, q6⟩ := id hH4
          go_wp2_with (go_at_call 96; refine (hP _).mono ?_; rintro r w5 ⟨rfl, hb5⟩)
          go_ret2
          exact ⟨by rw [HQ.out]; rfl, bel_then B4 hb5⟩
    · have hJ := Cut.spec_join C cc [y0, y1, y2] (n : Int) (0) wr (show 3 ≤ maxLen by decide) hys (show Cut.Lies wr C (Cut.strCells [y0, y1, y2]) from hlc)
      have hts := join_small y0 y1 y2 (n := n) (by omega) (by omega) (0) (by decide)
      have hFy := fun (h : (Cut.joinD [y0, y1, y2] (n : Int) (0)).2 = true) (hf : Cut.fitsB a b n d e (Cut.joinD [y0, y1, y2] (n : Int) (0)).1 = true) => first_yes (ys := [y0, y1, y2]) (a := a) (b := b) (c := n) (d := d) (e := e) (m := 1) (lost := 0) (by decide) h hf
      have hFn := fun (h : ¬ ((Cut.joinD [y0, y1, y2] (n : Int) (0)).2 = true ∧ Cut.fitsB a b n d e (Cut.joinD [y0, y1, y2] (n : Int) (0)).1 = true)) => first_no (ys := [y0, y1, y2]) (a := a) (b := b) (c := n) (d := d) (e := e) (m := 1) (lost := 0) (by decide) h
      unfold Cut.JoinPost at hJ
      obtain ⟨R, hR⟩ : ∃ R, R = Cut.joinD [y0, y1, y2] (n : Int) (0) := ⟨_, rfl⟩
      rw [← hR] at hJ hts
      simp only [← hR] at hFy hFn
      obtain ⟨t, v⟩ := R
      clear hR
      simp only at hJ hts hFy hFn
      have hP := fun W => Cut.spec_fits a b n d e t W (Nat.le_trans hts (by decide))
      have HFY := Lib.hid hFy
      have HFN := Lib.hid hFn
      clear hFy hFn hts
      cases v
      · have HQ := Lib.hid (HF.out.trans (HFN.out (fun h => by cases h.1)))
        obtain ⟨q0, q1, q2, q3, q4, q5, q6⟩ := id hH
        go_wp2_with (go_at_call 95; refine hJ.mono ?_; rintro r w4 ⟨rfl, hb4⟩; refine Hid.out ?_)
        refine Lib.hid ?_
        have HN := Lib.hid (hH.next hb4)
        have HO := Lib.hid (own_bel ho hb4)
        have HB := Lib.hid (bel_then BB hb4)
        clear q0 q1 q2 q3 q4 q5 q6 hJ hP
        go_wp2_with fail
        go_roundw
        case rel => exact ⟨2, by omega, by go_num, HQ.out, HN.out, HO.out, HB.out⟩
        case measure => simp [intOf]
      · cases hfb : Cut.fitsB a b n d e t
        · have HQ := Lib.hid (HF.out.trans (HFN.out (fun h => by rw [hfb] at h; cases h.2)))
          simp only [hfb] at hP
          clear hfb
          obtain ⟨q0, q1, q2, q3, q4, q5, q6⟩ := id hH
          go_wp2_with (go_at_call 95; refine hJ.mono ?_; rintro r w4 ⟨rfl, hb4⟩; refine Hid.out ?_)
          refine Lib.hid ?_
          have hH4 := hH.next hb4
          have ho4 := own_bel ho hb4
          have B4 := bel_then BB hb4
          clear q0 q1 q2 q3 q4 q5 q6 hJ hH ho BB hb4
          obtain ⟨q0, q1, q2, q3, q4, q5, q6⟩ := id hH4
          go_wp2_with (go_at_call 96; refine (hP _).mono ?_; rintro r w5 ⟨rfl, hb5⟩; refine Hid.out ?_)
          refine Lib.hid ?_
          have HN := Lib.hid (hH4.next hb5)
          have HO := Lib.hid (own_bel ho4 hb5)
          have HB := Lib.hid (bel_then B4 hb5)
          clear q0 q1 q2 q3 q4 q5 q6 hP
          go_wp2_with fail
          go_roundw
          case rel => exact ⟨2, by omega, by go_num, HQ.out, HN.out, HO.out, HB.out⟩
          case measure => simp [intOf]
        · have HQ := Lib.hid (HFI.out.symm.trans (HF.out.trans (HFY.out rfl hfb)))
          simp only [hfb] at hP
          clear hfb
          obtain ⟨q0, q1, q2, q3, q4, q5, q6⟩ := id hH
          go_wp2_with (go_at_call 95; refine hJ.mono ?_; rintro r w4 ⟨rfl, hb4⟩; refine Hid.out ?_)
          refine Lib.hid ?_
          have hH4 := hH.next hb4
          have B4 := bel_then BB hb4
          clear q0 q1 q2 q3 q4 q5 q6 hJ hH ho BB hb4
          obtain ⟨q0, q1, q2, q3, q4, q5, q6⟩ := id hH4
          go_wp2_with (go_at_call 96; refine (hP _).mono ?_; rintro r w5 ⟨rfl, hb5⟩)
          go_ret2
          exact ⟨by rw [HQ.out]; rfl, bel_then B4 hb5⟩
    · have hJ := Cut.spec_join C cc [y0, y1, y2] (n : Int) (1) wr (show 3 ≤ maxLen by decide) hys (show Cut.Lies wr C (Cut.strCells [y0, y1, y2]) from hlc)
      have hts := join_small y0 y1 y2 (n := n) (by omega) (by omega) (1) (by decide)
      have hFy := fun (h : (Cut.joinD [y0, y1, y2] (n : Int) (1)).2 = true) (hf : Cut.fitsB a b n d e (Cut.joinD [y0, y1, y2] (n : Int) (1)).1 = true) => first_yes (ys := [y0, y1, y2]) (a := a) (b := b) (c := n) (d := d) (e := e) (m := 0) (lost := 1) (by decide) h hf
      have hFn := fun (h : ¬ ((Cut.joinD [y0, y1, y2] (n : Int) (1)).2 = true ∧ Cut.fitsB a b n d e (Cut.joinD [y0, y1, y2] (n : Int) (1)).1 = true)) => first_no (ys := [y0, y1, y2]) (a := a) (b := b) (c := n) (d := d) (e := e) (m := 0) (lost := 1) (by decide) h
      unfold Cut.JoinPost at hJ
      obtain ⟨R, hR⟩ : ∃ R, R = Cut.joinD [y0, y1, y2] (n : Int) (1) := ⟨_, rfl⟩
      rw [← hR] at hJ hts
      simp only [← hR] at hFy hFn
      obtain ⟨t, v⟩ := R
      clear hR
      simp only at hJ hts hFy hFn
      have hP := fun W => Cut.spec_fits a b n d e t W (Nat.le_trans hts (by decide))
      have HFY := Lib.hid hFy
      have HFN := Lib.hid hFn
      clear hFy hFn hts
      cases v
      · have HQ := Lib.hid (HF.out.trans (HFN.out (fun h => by cases h.1)))
        obtain ⟨q0, q1, q2, q3, q4, q5, q6⟩ := id hH
        go_wp2_with (go_at_call 95; refine hJ.mono ?_; rintro r w4 ⟨rfl, hb4⟩; refine Hid.out ?_)
        refine Lib.hid ?_
        have HN := Lib.hid (hH.next hb4)
        have HO := Lib.hid (own_bel ho hb4)
        have HB := Lib.hid (bel_then BB hb4)
        clear q0 q1 q2 q3 q4 q5 q6 hJ hP
        go_wp2_with fail
        go_roundw
        case rel => exact ⟨3, by omega, by go_num, HQ.out, HN.out, HO.out, HB.out⟩
        case measure => simp [intOf]
      · cases hfb : Cut.fitsB a b n d e t
        · have HQ := Lib.hid (HF.out.trans (HFN.out (fun h => by rw [hfb] at h; cases h.2)))
          simp only [hfb] at hP
          clear hfb
          obtain ⟨q0, q1, q2, q3, q4, q5, q6⟩ := id hH
          go_wp2_with (go_at_call 95; refine hJ.mono ?_; rintro r w4 ⟨rfl, hb4⟩; refine Hid.out ?_)
          refine Lib.hid ?_
          have hH4 := hH.next hb4
          have ho4 := own_bel ho hb4
          have B4 := bel_then BB hb4
          clear q0 q1 q2 q3 q4 q5 q6 hJ hH ho BB hb4
          obtain ⟨q0, q1, q2, q3, q4, q5, q6⟩ := id hH4
          go_wp2_with (go_at_call 96; refine (hP _).mono ?_; rintro r w5 ⟨rfl, hb5⟩; refine Hid.out ?_)
          refine Lib.hid ?_
          have HN := Lib.hid (hH4.next hb5)
          have HO := Lib.hid (own_bel ho4 hb5)
          have HB := Lib.hid (bel_then B4 hb5)
          clear q0 q1 q2 q3 q4 q5 q6 hP
          go_wp2_with fail
          go_roundw
          case rel => exact ⟨3, by omega, by go_num, HQ.out, HN.out, HO.out, HB.out⟩
          case measure => simp [intOf]
        · have HQ := Lib.hid (HFI.out.symm.trans (HF.out.trans (HFY.out rfl hfb)))
          simp only [hfb] at hP
          clear hfb
          obtain ⟨q0, q1, q2, q3, q4, q5, q6⟩ := id hH
          go_wp2_with (go_at_call 95; refine hJ.mono ?_; rintro r w4 ⟨rfl, hb4⟩; refine Hid.out ?_)
          refine Lib.hid ?_
          have hH4 := hH.next hb4
          have B4 := bel_then BB hb4
          clear q0 q1 q2 q3 q4 q5 q6 hJ hH ho BB hb4
          obtain ⟨q0, q1, q2, q3, q4, q5, q6⟩ := id hH4
          go_wp2_with (go_at_call 96; refine (hP _).mono ?_; rintro r w5 ⟨rfl, hb5⟩)
          go_ret2
          exact ⟨by rw [HQ.out]; rfl, bel_then B4 hb5⟩
    · have HQ := Lib.hid (HFI.out.symm.trans HF.out)
      go_wp2_with fail
      go_ret2
      exact ⟨by rw [HQ.out]; rfl, BB⟩
end Go.Proofs.Ytndckncoipkhaaa
