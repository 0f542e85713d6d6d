/-
  PtrGet, the model's: what it answers at every text.
-/
import Derived.Test.YtehmaacbmkfedaaDoorGetV
import Derived.Deep.RegionHeld3
namespace Go.Proofs.YtehmaacbmkfedaaDoor
open Go.RowKit

theorem str45 {s : ByteArray} (h : s ≠ ⟨#[45]⟩) : (s.toList == [45]) = false := by
  have h2 := str_isnt h
  rw [ByteArray.toList_eq ⟨#[45]⟩] at h2
  exact h2
theorem bel_five {b : Nat} {w W : World} (h : Below b w W) (g : Nat) (hg : b ≤ g) (v0 v1 v2 v3 v4 : Value) :
    Below b w (((((W.setCell ⟨g, 0, none⟩ v0).setCell ⟨g, 1, none⟩ v1).setCell ⟨g, 2, none⟩ v2).setCell ⟨g, 3, none⟩ v3).setCell ⟨g, 4, none⟩ v4) :=
  ((((h.setCell hg _).setCell hg _).setCell hg _).setCell hg _).setCell hg _
theorem nums_all {ps : List ByteArray} (h : ∀ k (hk : k < ps.length), isNum ps[k] = true) : ∀ p ∈ ps, isNum p = true := by
  intro p hp
  obtain ⟨k, hk, rfl⟩ := List.getElem_of_mem hp
  exact h k hk

theorem num_yes (p : ByteArray) (W : World) (hp : p.size ≤ 1048576) (h : isNum p = true) : Calls Tryd.prog 28 #[.string p] W fun e w' => e = .returned (.tuple #[.int .i64 (numV p), .bool true]) ∧ W = w' :=
  (spec_numget p W (by omega)).mono fun e w' ⟨e1, e2⟩ => ⟨by rw [e1]; unfold isNum at h; rw [h]; rfl, e2⟩
theorem num_no (p : ByteArray) (W : World) (hp : p.size ≤ 1048576) (h : ¬ isNum p = true) : Calls Tryd.prog 28 #[.string p] W fun e w' => e = .returned (.tuple #[.int .i64 (numV p), .bool false]) ∧ W = w' :=
  (spec_numget p W (by omega)).mono fun e w' ⟨e1, e2⟩ => ⟨by
    have h2 : (numG p.data.toList).2 = false := by simpa [isNum] using h
    rw [e1, h2]
    rfl, e2⟩
theorem own_next_int {w : World} {base j : Nat} {v : Value} {ps : List ByteArray} {p : ByteArray} (hj : j < ps.length) (hp : p = ps[j]) (h : w.ownsRow base 3 1 v (j + 1) (intCells (ps.take j) ++ [.int .i64 (numV p)])) : w.ownsRow base 3 1 v (j + 1) (intCells (ps.take (j + 1))) := by
  rw [take_more ps j hj, show intCells (ps.take j ++ [ps[j]]) = intCells (ps.take j) ++ [.int .i64 (numV ps[j])] from (by unfold intCells; rw [List.map_append]; rfl), ← hp]
  exact h
theorem ints_at {w : World} {base g c : Nat} {ps : List ByteArray} (h : w.ownsRow base 3 1 (.slice (some ⟨g, 0, none⟩) 5 c) 5 (intCells (ps.take 5))) (h5 : ps.length = 5) :
    w.cell? ⟨g, 0, none⟩ = some (.int .i64 (five ps).a) ∧ w.cell? ⟨g, 1, none⟩ = some (.int .i64 (five ps).b) ∧ w.cell? ⟨g, 2, none⟩ = some (.int .i64 (five ps).c) ∧ w.cell? ⟨g, 3, none⟩ = some (.int .i64 (five ps).d) ∧ w.cell? ⟨g, 4, none⟩ = some (.int .i64 (five ps).e) := by
  match ps, h5 with
  | [p0, p1, p2, p3, p4], _ =>
    refine ⟨?_, ?_, ?_, ?_, ?_⟩
    · rw [h.cellAt 0 (by decide)]; rfl
    · rw [h.cellAt 1 (by decide)]; rfl
    · rw [h.cellAt 2 (by decide)]; rfl
    · rw [h.cellAt 3 (by decide)]; rfl
    · rw [h.cellAt 4 (by decide)]; rfl

def HI (wr : World) (g : Nat) (a b c d e : Int) (W : World) : Prop :=
  W.cell? ⟨g, 0, none⟩ = some (.int .i64 a) ∧ W.cell? ⟨g, 1, none⟩ = some (.int .i64 b) ∧ W.cell? ⟨g, 2, none⟩ = some (.int .i64 c) ∧ W.cell? ⟨g, 3, none⟩ = some (.int .i64 d) ∧ W.cell? ⟨g, 4, none⟩ = some (.int .i64 e) ∧ g < W.heap.size ∧ Below wr.heap.size wr W
theorem HI.drew {wr W : World} {g : Nat} {a b c d e : Int} (h : HI wr g a b c d e W) : HI wr g a b c d e W.drew := ⟨h.1, h.2.1, h.2.2.1, h.2.2.2.1, h.2.2.2.2.1, h.2.2.2.2.2.1, h.2.2.2.2.2.2.drew⟩
theorem HI.more {wr W : World} {g : Nat} {a b c d e : Int} (h : HI wr g a b c d e W) (o : Obj) : HI wr g a b c d e (W.alloc o) := by
  obtain ⟨h0, h1, h2, h3, h4, hl, hw⟩ := h
  have hn : ∀ k, (⟨g, k, none⟩ : Addr).block ≠ W.heap.size := fun k => Nat.ne_of_lt hl
  exact ⟨by rw [World.cell?_alloc_old _ _ _ (hn 0), h0], by rw [World.cell?_alloc_old _ _ _ (hn 1), h1], by rw [World.cell?_alloc_old _ _ _ (hn 2), h2], by rw [World.cell?_alloc_old _ _ _ (hn 3), h3], by rw [World.cell?_alloc_old _ _ _ (hn 4), h4], by simp; omega, bel_new hw o⟩

set_option maxRecDepth 100000 in
set_option maxHeartbeats 2000000 in
theorem spec_pget (s : ByteArray) (w : World) (hs : s.size ≤ 1048576) :
    Calls Tryd.prog 29 #[.string s] w fun e w' => e = .returned (.tuple #[(ptrG s).1.val, .bool (ptrG s).2]) ∧ Below w.heap.size w w' := by
  by_cases h1 : s = ⟨#[45]⟩
  · subst h1
    rw [ptrG_hole]
    go_enter Tryd.func29, Tryd.ntmps29
    go_wp2
    refine bodyPost_ret (v := .tuple #[P5.zero.val, .bool true]) ?_ rfl ⟨rfl, (by repeat' (first | exact Below.refl _ _ | refine bel_new ?_ _ | refine Below.drew ?_))⟩
    rw [results_cell_tmp rfl]
    go_simp
    rfl
  · have hq0 := str45 h1
    have hC := fun W => spec_cut s 46 W hs
    rw [show ((46 : UInt8).toNat : Int) = 46 from rfl] at hC
    have hsz := cutsB_short 46 s
    have hno := @ptrG_no s h1
    have hbad := @ptrG_bad s h1
    have hzero := @ptrG_zero s h1
    have hyes := @ptrG_yes s h1
    have hpn := @parts_no s
    have hpy := @parts_yes s
    obtain ⟨ps, hps⟩ : ∃ ps, ps = cutsB 46 s := ⟨_, rfl⟩
    rw [← hps] at hC hsz hpn hpy
    obtain ⟨r, hr⟩ : ∃ r, r = ptrG s := ⟨_, rfl⟩
    rw [← hr] at hno hbad hzero hyes ⊢
    clear hps h1 hr
    by_cases h5 : ps.length = 5
    · have hq5 : ((ps.length : Int) != 5) = false := by rw [h5]; rfl
      obtain ⟨i0, hi, hz0, hz1, hz2⟩ := info_parts Tryd.info3
      go_enter Tryd.func29, Tryd.ntmps29
      go_wp2_with (go_at_call 53; refine (hC _).mono ?_; rintro e w1 ⟨g, cp, rfl, ho, hb⟩; refine Hid.out ?_)
      refine Lib.hid ?_
      have Z := RBox.new hb
      have hA := StrsAt.of_own ho rfl
      have hbw : Below w.heap.size w w1 := bel_then (bel_fresh w) hb
      have o1 := World.ownsRow_made (e := 3) (base := w1.heap.size) w1 (size := 1) #[] 0 (Nat.le_refl _) (by decide) rfl
      clear ho hb hC
      go_wp2_with fail
      go_loopg [5, 6] 5 (fun gh b i wr => ∃ (j g2 c2 : Nat), gh = 5 - j ∧ j ≤ 5 ∧ i = .int .i64 j ∧ b = .slice (some ⟨g2, 0, none⟩) j c2 ∧ (∀ k (hk : k < ps.length), k < j → isNum ps[k] = true) ∧ wr.ownsRow w1.heap.size 3 1 (.slice (some ⟨g2, 0, none⟩) j c2) j (intCells (ps.take j)) ∧ Below w1.heap.size w1 wr)
      case atStart => exact ⟨0, w1.heap.size, 0, by omega, by omega, rfl, rfl, by omega, o1, bel_fresh w1⟩
      case round =>
        clear o1
        obtain ⟨j, g2, c2, hg, hj, rfl, rfl, hnum, ho, hb⟩ := hrel
        have HG := Lib.hid hg
        clear hg
        have s1 := hb.size
        have s0 := hbw.size
        have ZZ := Z.next hb
        by_cases hlt : j < 5
        · have hlt' : (j : Int) < 5 := by omega
          obtain ⟨b9, off9, e9, hlb, hc9⟩ := (hA.below hb) (by omega)
          obtain ⟨rfl, rfl⟩ : b9 = g ∧ off9 = 0 := by cases e9; exact ⟨rfl, rfl⟩
          have hck := hc9 j (by omega)
          rw [Nat.zero_add] at hck
          have hpj := hsz ps[j] (List.getElem_mem _)
          have hjp : j < ps.length := by omega
          by_cases hn : isNum ps[j] = true
          · have hN1 := fun W => num_yes ps[j] W (by omega) hn
            have HN : Hid (∀ k (hk : k < ps.length), k < j + 1 → isNum ps[k] = true) := Lib.hid (fun k hk hkj => by
              by_cases e : k = j
              · subst e; exact hn
              · exact hnum k hk (by omega))
            obtain ⟨p, hp⟩ : ∃ p, p = ps[j] := ⟨_, rfl⟩
            rw [← hp] at hN1 hck
            have HP := Lib.hid hp
            clear hpj hn hnum hp hc9 hno hbad hzero hyes hpn hpy hsz
            go_wp2_with (first | (go_at_call 28; refine (hN1 _).mono ?_; rintro e w' ⟨rfl, rfl⟩) | (at_builtin; refine wpList_append_own_at _ rfl _ _ 81 rfl w1.heap.size 3 i0 (.int .i64 0) 1 8 Tryd.underlying81 hi hz0 hz1 hz2 rfl (by decide) _ _ _ rfl (ho.alloc _) ⟨wr.heap.size, 0, none⟩ 1 1 [.int .i64 (numV p)] rfl rfl (cell_one_new _ _ _) (by simp [Value.oneCell']) (by unfold maxLen; omega) (by omega) (by simp; omega) ?_))
            intro v' w4 hown' hgrow _ hat
            have R := own_next_int hjp HP.out hown'
            have B4 : Below w1.heap.size w1 w4 := bel_row (hb.alloc hb.size _) (ho.alloc _) (Nat.le_refl _) hgrow
            obtain ⟨g4, c4, rfl⟩ := own_formt R (by omega)
            clear hown' hgrow hat ho hb
            go_wp2
            go_roundg (5 - (j + 1))
            case measure => have := HG.out; omega
            case rel => exact ⟨j + 1, g4, c4, rfl, by omega, by go_num, rfl, HN.out, R, B4⟩
          · have hN1 := fun W => num_no ps[j] W (by omega) hn
            have hv : r = (.zero, false) := hno (by rw [hpn (fun h => hn (h.2 _ (List.getElem_mem hjp)))])
            subst hv
            obtain ⟨p, hp⟩ : ∃ p, p = ps[j] := ⟨_, rfl⟩
            rw [← hp] at hN1 hck
            have z0 := ZZ.cell 0 (by decide)
            have z1 := ZZ.cell 1 (by decide)
            have z2 := ZZ.cell 2 (by decide)
            have z3 := ZZ.cell 3 (by decide)
            have z4 := ZZ.cell 4 (by decide)
            have f0 := ZZ.free 0
            have f1 := ZZ.free 1
            have f2 := ZZ.free 2
            have f3 := ZZ.free 3
            have f4 := ZZ.free 4
            clear hpj hn hnum hp hc9 hno hbad hzero hyes hpn hpy hsz
            go_wp2_with (go_at_call 28; refine (hN1 _).mono ?_; rintro e w' ⟨rfl, rfl⟩)
            refine bodyPost_ret (v := .tuple #[P5.zero.val, .bool false]) ?_ rfl ⟨rfl, bel_five (bel_then hbw hb) _ (Nat.le_refl _) _ _ _ _ _⟩
            rw [results_cell_tmp rfl]
            go_simp
            rfl
        · obtain rfl : j = 5 := by omega
          obtain ⟨c0, c1, c2', c3, c4⟩ := ints_at ho h5
          have hparts := hpy h5 (nums_all fun k hk => hnum k hk (by omega))
          rw [hparts] at hno hbad hzero hyes
          obtain ⟨a, b, c, d, e, hq⟩ : ∃ a b c d e, five ps = ⟨a, b, c, d, e⟩ := ⟨_, _, _, _, _, rfl⟩
          rw [hq] at c0 c1 c2' c3 c4 hbad hzero hyes
          have zl := ZZ.lt
          have H0 : HI wr g2 a b c d e wr := ⟨c0, c1, c2', c3, c4, (ho.lt g2 rfl).2, Below.refl _ _⟩
          have H1 := H0.drew
          have zg := (ho.lt g2 rfl).2
          have zn : w.heap.size ≠ g2 := by have := (ho.lt g2 rfl).1; have := Z.lt; omega
          have H9 := (HP.new wr a b c d e 29).drew
          have hO : ∀ W, Calls Tryd.prog 43 #[.agg #[.int .i64 a, .int .i64 b, .int .i64 c, .int .i64 d, .int .i64 e]] W fun r w' => r = .returned (.bool (isOk a b c d e)) ∧ Below W.heap.size W w' := fun W => (spec_ok a b c d e W).mono fun r w' ⟨h1, h2⟩ => ⟨h1, h2 ▸ bel_new (bel_new (Below.refl _ _) _) _⟩
          have hM : ∀ W, Calls Tryd.prog 44 #[.agg #[.int .i64 a, .int .i64 b, .int .i64 c, .int .i64 d, .int .i64 e]] W fun r w' => r = .returned (.bool (isHole a b c d e)) ∧ Below W.heap.size W w' := fun W => (spec_hole a b c d e W).mono fun r w' ⟨h1, h2⟩ => ⟨h1, h2 ▸ bel_new (Below.refl _ _) _⟩
          clear hnum hno hpn hpy hsz hparts hq hA
          have hW := bel_then hbw hb
          by_cases hk : isOk a b c d e = true
          · by_cases hh : isHole a b c d e = true
            · have hv : r = (.zero, false) := hzero hh
              subst hv
              rw [hk] at hO
              rw [hh] at hM
              clear hk hh hbad hzero hyes
              go_wp2_with fail
              go_region_held3 (fun W => W.cell? ⟨g2, 0, none⟩ = some (.int .i64 a) ∧ W.cell? ⟨g2, 1, none⟩ = some (.int .i64 b) ∧ W.cell? ⟨g2, 2, none⟩ = some (.int .i64 c) ∧ W.cell? ⟨g2, 3, none⟩ = some (.int .i64 d) ∧ W.cell? ⟨g2, 4, none⟩ = some (.int .i64 e) ∧ g2 < W.heap.size ∧ Below wr.heap.size wr W)
                ((show HI wr g2 a b c d e _; with_reducible (first | exact H0 | exact H1 | exact HI.more H1 _ | exact HI.more H0 _ | exact HI.drew (HI.more H0 _))))
                (fail)
              all_goals go_wp2_with (first | (go_at_call 43; refine (hO _).mono ?_; rintro e w5 ⟨rfl, hb5⟩; have H5 := H9.next hb5; obtain ⟨y0, y1, y2, y3, y4, yl, yb⟩ := id H5; have Z5 := ZZ.next H5.bel; have z0 := Z5.cell 0 (by decide); have z1 := Z5.cell 1 (by decide); have z2 := Z5.cell 2 (by decide); have z3 := Z5.cell 3 (by decide); have z4 := Z5.cell 4 (by decide); have f0 := Z5.free 0; have f1 := Z5.free 1; have f2 := Z5.free 2; have f3 := Z5.free 3; have f4 := Z5.free 4) | (go_at_call 44; refine (hM _).mono ?_; rintro e w6 ⟨rfl, hb6⟩; have H6 := H5.next hb6; obtain ⟨y0, y1, y2, y3, y4, yl, yb⟩ := id H6; have Z6 := ZZ.next H6.bel; have z0 := Z6.cell 0 (by decide); have z1 := Z6.cell 1 (by decide); have z2 := Z6.cell 2 (by decide); have z3 := Z6.cell 3 (by decide); have z4 := Z6.cell 4 (by decide); have f0 := Z6.free 0; have f1 := Z6.free 1; have f2 := Z6.free 2; have f3 := Z6.free 3; have f4 := Z6.free 4))
              refine bodyPost_ret (v := .tuple #[P5.zero.val, .bool false]) ?_ rfl ⟨rfl, ?_⟩
              · rw [results_cell_tmp rfl]
                go_simp
                rfl
              · exact bel_five (bel_then hW yb) _ (Nat.le_refl _) _ _ _ _ _
            · have hh' : isHole a b c d e = false := by simpa using hh
              have hv : r = (⟨a, b, c, d, e⟩, true) := hyes rfl hk hh'
              subst hv
              rw [hk] at hO
              rw [hh'] at hM
              clear hk hh hh' hbad hzero hyes
              go_wp2_with fail
              go_region_held3 (fun W => W.cell? ⟨g2, 0, none⟩ = some (.int .i64 a) ∧ W.cell? ⟨g2, 1, none⟩ = some (.int .i64 b) ∧ W.cell? ⟨g2, 2, none⟩ = some (.int .i64 c) ∧ W.cell? ⟨g2, 3, none⟩ = some (.int .i64 d) ∧ W.cell? ⟨g2, 4, none⟩ = some (.int .i64 e) ∧ g2 < W.heap.size ∧ Below wr.heap.size wr W)
                ((show HI wr g2 a b c d e _; with_reducible (first | exact H0 | exact H1 | exact HI.more H1 _ | exact HI.more H0 _ | exact HI.drew (HI.more H0 _))))
                (fail)
              all_goals go_wp2_with (first | (go_at_call 43; refine (hO _).mono ?_; rintro e w5 ⟨rfl, hb5⟩; have H5 := H9.next hb5; obtain ⟨y0, y1, y2, y3, y4, yl, yb⟩ := id H5; have Z5 := ZZ.next H5.bel; have z0 := Z5.cell 0 (by decide); have z1 := Z5.cell 1 (by decide); have z2 := Z5.cell 2 (by decide); have z3 := Z5.cell 3 (by decide); have z4 := Z5.cell 4 (by decide); have f0 := Z5.free 0; have f1 := Z5.free 1; have f2 := Z5.free 2; have f3 := Z5.free 3; have f4 := Z5.free 4) | (go_at_call 44; refine (hM _).mono ?_; rintro e w6 ⟨rfl, hb6⟩; have H6 := H5.next hb6; obtain ⟨y0, y1, y2, y3, y4, yl, yb⟩ := id H6; have Z6 := ZZ.next H6.bel; have z0 := Z6.cell 0 (by decide); have z1 := Z6.cell 1 (by decide); have z2 := Z6.cell 2 (by decide); have z3 := Z6.cell 3 (by decide); have z4 := Z6.cell 4 (by decide); have f0 := Z6.free 0; have f1 := Z6.free 1; have f2 := Z6.free 2; have f3 := Z6.free 3; have f4 := Z6.free 4))
              refine bodyPost_ret (v := .tuple #[P5.val ⟨a, b, c, d, e⟩, .bool true]) ?_ rfl ⟨rfl, ?_⟩
              · rw [results_cell_tmp rfl]
                go_simp
                rfl
              · exact bel_five (bel_then hW yb) _ (Nat.le_refl _) _ _ _ _ _
          · have hk' : isOk a b c d e = false := by simpa using hk
            have hv : r = (.zero, false) := hbad hk'
            subst hv
            rw [hk'] at hO
            clear hk hk' hbad hzero hyes
            go_wp2_with fail
            go_region_held3 (fun W => W.cell? ⟨g2, 0, none⟩ = some (.int .i64 a) ∧ W.cell? ⟨g2, 1, none⟩ = some (.int .i64 b) ∧ W.cell? ⟨g2, 2, none⟩ = some (.int .i64 c) ∧ W.cell? ⟨g2, 3, none⟩ = some (.int .i64 d) ∧ W.cell? ⟨g2, 4, none⟩ = some (.int .i64 e) ∧ g2 < W.heap.size ∧ Below wr.heap.size wr W)
              ((show HI wr g2 a b c d e _; with_reducible (first | exact H0 | exact H1 | exact HI.more H1 _ | exact HI.more H0 _ | exact HI.drew (HI.more H0 _))))
              (fail)
            all_goals go_wp2_with (first | (go_at_call 43; refine (hO _).mono ?_; rintro e w5 ⟨rfl, hb5⟩; have H5 := H9.next hb5; obtain ⟨y0, y1, y2, y3, y4, yl, yb⟩ := id H5; have Z5 := ZZ.next H5.bel; have z0 := Z5.cell 0 (by decide); have z1 := Z5.cell 1 (by decide); have z2 := Z5.cell 2 (by decide); have z3 := Z5.cell 3 (by decide); have z4 := Z5.cell 4 (by decide); have f0 := Z5.free 0; have f1 := Z5.free 1; have f2 := Z5.free 2; have f3 := Z5.free 3; have f4 := Z5.free 4) | (go_at_call 44; refine (hM _).mono ?_; rintro e w6 ⟨rfl, hb6⟩; have H6 := H5.next hb6; obtain ⟨y0, y1, y2, y3, y4, yl, yb⟩ := id H6; have Z6 := ZZ.next H6.bel; have z0 := Z6.cell 0 (by decide); have z1 := Z6.cell 1 (by decide); have z2 := Z6.cell 2 (by decide); have z3 := Z6.cell 3 (by decide); have z4 := Z6.cell 4 (by decide); have f0 := Z6.free 0; have f1 := Z6.free 1; have f2 := Z6.free 2; have f3 := Z6.free 3; have f4 := Z6.free 4))
            refine bodyPost_ret (v := .tuple #[P5.zero.val, .bool false]) ?_ rfl ⟨rfl, ?_⟩
            · rw [results_cell_tmp rfl]
              go_simp
              rfl
            · exact bel_five (bel_then hW yb) _ (Nat.le_refl _) _ _ _ _ _
    · have hv : r = (.zero, false) := hno (by rw [hpn (fun h => h5 h.1)])
      have hq5 : ((ps.length : Int) != 5) = true := by rw [bne_iff_ne]; omega
      rw [hv]
      clear hv h5 hno hbad hzero hyes hpn hpy hsz
      go_enter Tryd.func29, Tryd.ntmps29
      go_wp2_with (go_at_call 53; refine (hC _).mono ?_; rintro e w1 ⟨g, cp, rfl, ho, hb⟩; have Z := RBox.new hb; have z0 := Z.cell 0 (by decide); have z1 := Z.cell 1 (by decide); have z2 := Z.cell 2 (by decide); have z3 := Z.cell 3 (by decide); have z4 := Z.cell 4 (by decide); have f0 := Z.free 0; have f1 := Z.free 1; have f2 := Z.free 2; have f3 := Z.free 3; have f4 := Z.free 4)
      refine bodyPost_ret (v := .tuple #[P5.zero.val, .bool false]) ?_ rfl ⟨rfl, bel_five (bel_then (bel_fresh w) hb) _ (Nat.le_refl _) _ _ _ _ _⟩
      rw [results_cell_tmp rfl]
      go_simp
      rfl

end Go.Proofs.YtehmaacbmkfedaaDoor
