/-
  One reference of a row of a store is given back, in place: the walk.
-/
import Derived.Test.YtmnamclndpfjnaaDrp
namespace Go.Proofs.Ytmnamclndpfjnaa
open Go.RowKit

theorem strCells_set (xs : List ByteArray) (k : Nat) (b : ByteArray) : (strCells xs).set k (.string b) = strCells (xs.set k b) := by simp [strCells, List.map_set]
def DropPost (V : Value) (x : SA) (s : St) (n base top : Nat) (w : World) (e : Ending) (w' : World) : Prop := e = .returned V ∧ Own w' base top (rows5 x (dropSt s n)) ∧ Only base top w w'

set_option maxRecDepth 100000 in
set_option maxHeartbeats 8000000 in
theorem spec_l7drop (p q r xa xr xl xg xd n base top : Nat) (xG xD : Option Addr) (s : St) (w : World) (hn : n < 64) (l1 : s.rows.length = 64) (l2 : s.sp.refs.length = 64) (l3 : s.sp.last.length = 64)
    (hx : 1 ≤ s.sp.refs.getD n 0 ∧ s.sp.refs.getD n 0 ≤ 900) (htop : top ≤ w.heap.size) (hO : Own w base top (rows5 (⟨some ⟨r, 0, none⟩, xa, some ⟨p, 0, none⟩, xr, some ⟨q, 0, none⟩, xl, xG, xg, xD, xd⟩ : SA) s)) :
    Calls Try.prog 70 #[.agg #[.slice (some ⟨r, 0, none⟩) 64 xa, .slice (some ⟨p, 0, none⟩) 64 xr, .slice (some ⟨q, 0, none⟩) 64 xl, .int .i64 s.txg, .slice xG s.gone.length xg, .int .i64 s.keep, .slice xD s.dead.length xd, .bool s.same], .int .i64 (n : Int)] w (DropPost (.agg #[.slice (some ⟨r, 0, none⟩) 64 xa, .slice (some ⟨p, 0, none⟩) 64 xr, .slice (some ⟨q, 0, none⟩) 64 xl, .int .i64 s.txg, .slice xG s.gone.length xg, .int .i64 s.keep, .slice xD s.dead.length xd, .bool s.same]) (⟨some ⟨r, 0, none⟩, xa, some ⟨p, 0, none⟩, xr, some ⟨q, 0, none⟩, xl, xG, xg, xD, xd⟩ : SA) s n base top w) := by
  have a := (B8.new w 28 (.slice (some ⟨r, 0, none⟩) 64 xa) (.slice (some ⟨p, 0, none⟩) 64 xr) (.slice (some ⟨q, 0, none⟩) 64 xl) (.int .i64 s.txg) (.slice xG s.gone.length xg) (.int .i64 s.keep) (.slice xD s.dead.length xd) (.bool s.same)).alloc (.cells #[.slice none 0 0, .slice none 0 0, .slice none 0 0, .int .i64 0, .slice none 0 0, .int .i64 0, .slice none 0 0, .bool false] 28)
  have c := B8.new (w.alloc (.cells #[.slice (some ⟨r, 0, none⟩) 64 xa, .slice (some ⟨p, 0, none⟩) 64 xr, .slice (some ⟨q, 0, none⟩) 64 xl, .int .i64 s.txg, .slice xG s.gone.length xg, .int .i64 s.keep, .slice xD s.dead.length xd, .bool s.same] 28)) 28 (.slice none 0 0) (.slice none 0 0) (.slice none 0 0) (.int .i64 0) (.slice none 0 0) (.int .i64 0) (.slice none 0 0) (.bool false)
  rw [World.size_alloc] at c
  have bel := bel_new (bel_new (Below.refl w.heap.size w) (.cells #[.slice (some ⟨r, 0, none⟩) 64 xa, .slice (some ⟨p, 0, none⟩) 64 xr, .slice (some ⟨q, 0, none⟩) 64 xl, .int .i64 s.txg, .slice xG s.gone.length xg, .int .i64 s.keep, .slice xD s.dead.length xd, .bool s.same] 28)) (.cells #[.slice none 0 0, .slice none 0 0, .slice none 0 0, .int .i64 0, .slice none 0 0, .int .i64 0, .slice none 0 0, .bool false] 28)
  have O0 := hO.below bel
  have hR := O0.row 1 (by decide : 1 < 5)
  have hL := O0.row 2 (by decide : 2 < 5)
  have ap := fun (i j : Nat) (hi : i < 5) (hj : j < 5) (hne : i ≠ j) => apart_at (L := rows5 (⟨some ⟨r, 0, none⟩, xa, some ⟨p, 0, none⟩, xr, some ⟨q, 0, none⟩, xl, xG, xg, xD, xd⟩ : SA) s) hO.2 (i := i) (j := j) hi hj hne
  have hr : base ≤ r ∧ r < top := ⟨((hO.row 0 (by decide : 0 < 5)).lt r rfl).1, (hO.1 _ (List.getElem_mem (by decide : 0 < 5))).2 r rfl⟩
  have hp : base ≤ p ∧ p < top := ⟨((hO.row 1 (by decide : 1 < 5)).lt p rfl).1, (hO.1 _ (List.getElem_mem (by decide : 1 < 5))).2 p rfl⟩
  have hq : base ≤ q ∧ q < top := ⟨((hO.row 2 (by decide : 2 < 5)).lt q rfl).1, (hO.1 _ (List.getElem_mem (by decide : 2 < 5))).2 q rfl⟩
  have hpq : p ≠ q := fun e => ap 1 2 (by decide) (by decide) (by decide) p rfl (by rw [e]; rfl)
  have hrp : r ≠ p := fun e => ap 0 1 (by decide) (by decide) (by decide) r rfl (by rw [e]; rfl)
  obtain ⟨u, hu⟩ : ∃ u, u = s.sp.refs.getD n 0 := ⟨_, rfl⟩
  have hur : ∃ h : n < s.sp.refs.length, s.sp.refs[n] = u := ⟨by omega, by rw [hu, List.getD_eq_getElem?_getD, List.getElem?_eq_getElem (by omega), Option.getD_some]⟩
  have hul : ∃ h : n < s.sp.last.length, s.sp.last[n] = s.sp.last.getD n 0 := ⟨by omega, by rw [List.getD_eq_getElem?_getD, List.getElem?_eq_getElem (by omega), Option.getD_some]⟩
  rw [← hu] at hx
  have hG := spec_l5givet base p q n xr xl u _ s.sp.refs s.sp.last _ hpq hn hx.1 hx.2 (by have := hR; simp only [rows5, List.getElem_cons_succ, List.getElem_cons_zero, l2] at this; exact this) (by have := hL; simp only [rows5, List.getElem_cons_succ, List.getElem_cons_zero, l3] at this; exact this) hur hul
  have hn64 : (n : Int) < 64 := by omega
  have sz : w.heap.size + 1 + 1 ≤ ((w.alloc (.cells #[.slice (some ⟨r, 0, none⟩) 64 xa, .slice (some ⟨p, 0, none⟩) 64 xr, .slice (some ⟨q, 0, none⟩) 64 xl, .int .i64 s.txg, .slice xG s.gone.length xg, .int .i64 s.keep, .slice xD s.dead.length xd, .bool s.same] 28)).alloc (.cells #[.slice none 0 0, .slice none 0 0, .slice none 0 0, .int .i64 0, .slice none 0 0, .int .i64 0, .slice none 0 0, .bool false] 28)).heap.size := by rw [World.size_alloc, World.size_alloc]; exact Nat.le_refl _
  have BO := Only.of_below (lo := base) (hi := top) bel
  clear hR hL ap hur hul hO bel
  have HX := Lib.hid hx
  have HU := Lib.hid hu
  have HL1 := Lib.hid l1
  have HL2 := Lib.hid l2
  have HL3 := Lib.hid l3
  have HP := Lib.hid hp
  have HQ := Lib.hid hq
  have HR := Lib.hid hr
  clear hx hu l1 l2 l3 hp hq hr
  go_enter Try.func70, Try.ntmps70
  go_wp2_with (go_at_call 105; refine hG.mono ?_; rintro e w2 ⟨rfl, o1, o2, T⟩; refine Hid.out ?_)
  refine Lib.hid ?_
  have s2 := T.size
  have lp := HP.out.2
  have lq := HQ.out.2
  have lr := HR.out.2
  have a2 := a.two T (by omega) (by omega)
  have c2 := c.two T (by omega) (by omega)
  have O2 := own_two O0 rfl rfl T (R := s.sp.refs.set n (u - 1)) (L := lastG u s.sp.last n) (by rw [List.length_set, HL2.out]; exact o1) (by rw [lastG_len, HL3.out]; exact o2)
  have B2 := BO.trans (T.only HP.out HQ.out)
  have e1 : w.heap.size ≠ p := by omega
  have e2 : w.heap.size ≠ r := by omega
  have e3 : w.heap.size + 1 ≠ r := by omega
  obtain ⟨cp, _⟩ := cell_own o1 (k := n) (x := u - 1) (by rw [List.length_set, HL2.out]; exact hn) (by simp)
  have hrow := O2.row 0 (by decide : 0 < 5)
  simp only [rows5, List.getElem_cons_zero, HL1.out] at hrow
  have fr := hrow.frozenAt n
  have cr := hrow.cellAt n (by omega)
  rw [strCells_at _ n (by rw [HL1.out]; exact hn)] at cr
  obtain ⟨x0, x1, x2, x3, x4, x5, x6, x7⟩ := a2.cells
  obtain ⟨f0, f1, f2, f3, f4, f5, f6, f7⟩ := a2.fro
  obtain ⟨y0, y1, y2, y3, y4, y5, y6, y7⟩ := c2.cells
  obtain ⟨g0, g1, g2, g3, g4, g5, g6, g7⟩ := c2.fro
  have hl0 : w.heap.size < w2.heap.size := by omega
  have hl1 : w.heap.size + 1 < w2.heap.size := by omega
  have a3 := (a2.put1 (.slice (some ⟨p, 0, none⟩) 64 xr)).put2 (.slice (some ⟨q, 0, none⟩) 64 xl)
  have c3 := (c2.set (p := ⟨w.heap.size, 1, none⟩) (by show w.heap.size + 1 ≠ w.heap.size; omega) (.slice (some ⟨p, 0, none⟩) 64 xr)).set (p := ⟨w.heap.size, 2, none⟩) (by show w.heap.size + 1 ≠ w.heap.size; omega) (.slice (some ⟨q, 0, none⟩) 64 xl)
  have O3 := (O2.setA (a := ⟨w.heap.size, 1, none⟩) htop (.slice (some ⟨p, 0, none⟩) 64 xr)).setA (a := ⟨w.heap.size, 2, none⟩) htop (.slice (some ⟨q, 0, none⟩) 64 xl)
  have B3 := (B2.set2 (p := ⟨w.heap.size, 1, none⟩) (Nat.le_refl _) (.slice (some ⟨p, 0, none⟩) 64 xr)).set2 (p := ⟨w.heap.size, 2, none⟩) (Nat.le_refl _) (.slice (some ⟨q, 0, none⟩) 64 xl)
  clear o1 o2 O0 O2 BO B2 a c a2 c2 hG T hrow sz s2
  
  by_cases hu1 : u = 1
  · have hq0 : (u - 1 == 0) = true := by simp; omega
    have hd : dropSt s n = { s with rows := s.rows.set n ⟨#[]⟩, sp := ⟨s.sp.refs.set n (u - 1), lastG u s.sp.last n⟩ } := by unfold dropSt; rw [← HU.out, if_pos hu1]; rfl
    have hrow := O3.row 0 (by decide : 0 < 5)
    have st := (hrow.stored n (.string ⟨#[]⟩)).1
    simp only [rows5, List.getElem_cons_zero, strCells_set] at st
    have O4 := O3.put 0 (by decide : 0 < 5) (r := ⟨9, 1, (s.rows.set n ⟨#[]⟩).length, .slice (some ⟨r, 0, none⟩) (s.rows.set n ⟨#[]⟩).length xa, strCells (s.rows.set n ⟨#[]⟩)⟩) rfl (grown_set _ ⟨r, n, none⟩ (.string ⟨#[]⟩)) (by simp only [List.length_set]; exact st)
    have c4 := c3.set (p := ⟨r, n, none⟩) e3 (.string ⟨#[]⟩)
    have B4 := B3.trans (only_set (W := ((w2.setCell ⟨w.heap.size, 1, none⟩ (.slice (some ⟨p, 0, none⟩) 64 xr)).setCell ⟨w.heap.size, 2, none⟩ (.slice (some ⟨q, 0, none⟩) 64 xl))) (p := ⟨r, n, none⟩) HR.out.1 HR.out.2 (.string ⟨#[]⟩))
    have O4 : Own (((w2.setCell ⟨w.heap.size, 1, none⟩ (.slice (some ⟨p, 0, none⟩) 64 xr)).setCell ⟨w.heap.size, 2, none⟩ (.slice (some ⟨q, 0, none⟩) 64 xl)).setCell ⟨r, n, none⟩ (.string ⟨#[]⟩)) base top (rows5 (⟨some ⟨r, 0, none⟩, xa, some ⟨p, 0, none⟩, xr, some ⟨q, 0, none⟩, xl, xG, xg, xD, xd⟩ : SA) (dropSt s n)) := by rw [hd]; exact O4
    clear hd hrow st
    have HF := Lib.hid (show B8 (((((((((((w2.setCell ⟨w.heap.size, 1, none⟩ (.slice (some ⟨p, 0, none⟩) 64 xr)).setCell ⟨w.heap.size, 2, none⟩ (.slice (some ⟨q, 0, none⟩) 64 xl)).setCell ⟨r, n, none⟩ (.string ⟨#[]⟩)).setCell ⟨w.heap.size + 1, 0, none⟩ (.slice (some ⟨r, 0, none⟩) 64 xa)).setCell ⟨w.heap.size + 1, 1, none⟩ (.slice (some ⟨p, 0, none⟩) 64 xr)).setCell ⟨w.heap.size + 1, 2, none⟩ (.slice (some ⟨q, 0, none⟩) 64 xl)).setCell ⟨w.heap.size + 1, 3, none⟩ (.int .i64 s.txg)).setCell ⟨w.heap.size + 1, 4, none⟩ (.slice xG s.gone.length xg)).setCell ⟨w.heap.size + 1, 5, none⟩ (.int .i64 s.keep)).setCell ⟨w.heap.size + 1, 6, none⟩ (.slice xD s.dead.length xd)).setCell ⟨w.heap.size + 1, 7, none⟩ (.bool s.same)) (w.heap.size + 1) 28 (.slice (some ⟨r, 0, none⟩) 64 xa) (.slice (some ⟨p, 0, none⟩) 64 xr) (.slice (some ⟨q, 0, none⟩) 64 xl) (.int .i64 s.txg) (.slice xG s.gone.length xg) (.int .i64 s.keep) (.slice xD s.dead.length xd) (.bool s.same) ∧ Own (((((((((((w2.setCell ⟨w.heap.size, 1, none⟩ (.slice (some ⟨p, 0, none⟩) 64 xr)).setCell ⟨w.heap.size, 2, none⟩ (.slice (some ⟨q, 0, none⟩) 64 xl)).setCell ⟨r, n, none⟩ (.string ⟨#[]⟩)).setCell ⟨w.heap.size + 1, 0, none⟩ (.slice (some ⟨r, 0, none⟩) 64 xa)).setCell ⟨w.heap.size + 1, 1, none⟩ (.slice (some ⟨p, 0, none⟩) 64 xr)).setCell ⟨w.heap.size + 1, 2, none⟩ (.slice (some ⟨q, 0, none⟩) 64 xl)).setCell ⟨w.heap.size + 1, 3, none⟩ (.int .i64 s.txg)).setCell ⟨w.heap.size + 1, 4, none⟩ (.slice xG s.gone.length xg)).setCell ⟨w.heap.size + 1, 5, none⟩ (.int .i64 s.keep)).setCell ⟨w.heap.size + 1, 6, none⟩ (.slice xD s.dead.length xd)).setCell ⟨w.heap.size + 1, 7, none⟩ (.bool s.same)) base top (rows5 (⟨some ⟨r, 0, none⟩, xa, some ⟨p, 0, none⟩, xr, some ⟨q, 0, none⟩, xl, xG, xg, xD, xd⟩ : SA) (dropSt s n)) ∧ Only base top w (((((((((((w2.setCell ⟨w.heap.size, 1, none⟩ (.slice (some ⟨p, 0, none⟩) 64 xr)).setCell ⟨w.heap.size, 2, none⟩ (.slice (some ⟨q, 0, none⟩) 64 xl)).setCell ⟨r, n, none⟩ (.string ⟨#[]⟩)).setCell ⟨w.heap.size + 1, 0, none⟩ (.slice (some ⟨r, 0, none⟩) 64 xa)).setCell ⟨w.heap.size + 1, 1, none⟩ (.slice (some ⟨p, 0, none⟩) 64 xr)).setCell ⟨w.heap.size + 1, 2, none⟩ (.slice (some ⟨q, 0, none⟩) 64 xl)).setCell ⟨w.heap.size + 1, 3, none⟩ (.int .i64 s.txg)).setCell ⟨w.heap.size + 1, 4, none⟩ (.slice xG s.gone.length xg)).setCell ⟨w.heap.size + 1, 5, none⟩ (.int .i64 s.keep)).setCell ⟨w.heap.size + 1, 6, none⟩ (.slice xD s.dead.length xd)).setCell ⟨w.heap.size + 1, 7, none⟩ (.bool s.same)) from ⟨((((((((c4.put0 _).put1 _).put2 _).put3 _).put4 _).put5 _).put6 _).put7 _), ((((((((O4.setA (a := ⟨w.heap.size + 1, 0, none⟩) (Nat.le_succ_of_le htop) _).setA (a := ⟨w.heap.size + 1, 1, none⟩) (Nat.le_succ_of_le htop) _).setA (a := ⟨w.heap.size + 1, 2, none⟩) (Nat.le_succ_of_le htop) _).setA (a := ⟨w.heap.size + 1, 3, none⟩) (Nat.le_succ_of_le htop) _).setA (a := ⟨w.heap.size + 1, 4, none⟩) (Nat.le_succ_of_le htop) _).setA (a := ⟨w.heap.size + 1, 5, none⟩) (Nat.le_succ_of_le htop) _).setA (a := ⟨w.heap.size + 1, 6, none⟩) (Nat.le_succ_of_le htop) _).setA (a := ⟨w.heap.size + 1, 7, none⟩) (Nat.le_succ_of_le htop) _), ((((((((B4.set2 (p := ⟨w.heap.size + 1, 0, none⟩) (Nat.le_succ _) _).set2 (p := ⟨w.heap.size + 1, 1, none⟩) (Nat.le_succ _) _).set2 (p := ⟨w.heap.size + 1, 2, none⟩) (Nat.le_succ _) _).set2 (p := ⟨w.heap.size + 1, 3, none⟩) (Nat.le_succ _) _).set2 (p := ⟨w.heap.size + 1, 4, none⟩) (Nat.le_succ _) _).set2 (p := ⟨w.heap.size + 1, 5, none⟩) (Nat.le_succ _) _).set2 (p := ⟨w.heap.size + 1, 6, none⟩) (Nat.le_succ _) _).set2 (p := ⟨w.heap.size + 1, 7, none⟩) (Nat.le_succ _) _)⟩)
    clear a3 c3 O3 B3 c4 O4 B4
    go_wp2_with fail
    have HF := HF.out
    generalize (((((((((((w2.setCell ⟨w.heap.size, 1, none⟩ (.slice (some ⟨p, 0, none⟩) 64 xr)).setCell ⟨w.heap.size, 2, none⟩ (.slice (some ⟨q, 0, none⟩) 64 xl)).setCell ⟨r, n, none⟩ (.string ⟨#[]⟩)).setCell ⟨w.heap.size + 1, 0, none⟩ (.slice (some ⟨r, 0, none⟩) 64 xa)).setCell ⟨w.heap.size + 1, 1, none⟩ (.slice (some ⟨p, 0, none⟩) 64 xr)).setCell ⟨w.heap.size + 1, 2, none⟩ (.slice (some ⟨q, 0, none⟩) 64 xl)).setCell ⟨w.heap.size + 1, 3, none⟩ (.int .i64 s.txg)).setCell ⟨w.heap.size + 1, 4, none⟩ (.slice xG s.gone.length xg)).setCell ⟨w.heap.size + 1, 5, none⟩ (.int .i64 s.keep)).setCell ⟨w.heap.size + 1, 6, none⟩ (.slice xD s.dead.length xd)).setCell ⟨w.heap.size + 1, 7, none⟩ (.bool s.same)) = WF at HF ⊢
    clear x0 x1 x2 x3 x4 x5 x6 x7 f0 f1 f2 f3 f4 f5 f6 f7 y0 y1 y2 y3 y4 y5 y6 y7 g0 g1 g2 g3 g4 g5 g6 g7
    obtain ⟨hb, ho, hy⟩ := HF
    obtain ⟨q0, q1, q2, q3, q4, q5, q6, q7⟩ := hb.cells
    exact bodyPost_ret (v := .agg #[.slice (some ⟨r, 0, none⟩) 64 xa, .slice (some ⟨p, 0, none⟩) 64 xr, .slice (some ⟨q, 0, none⟩) 64 xl, .int .i64 s.txg, .slice xG s.gone.length xg, .int .i64 s.keep, .slice xD s.dead.length xd, .bool s.same]) (by simp [results, Try.f70, go_sem, q0, q1, q2, q3, q4, q5, q6, q7]) rfl ⟨rfl, ho, hy⟩
  · have hq0 : (u - 1 == 0) = false := by simp; omega
    have hd : dropSt s n = { s with rows := s.rows, sp := ⟨s.sp.refs.set n (u - 1), lastG u s.sp.last n⟩ } := by unfold dropSt; rw [← HU.out, if_neg hu1]
    have O3 : Own ((w2.setCell ⟨w.heap.size, 1, none⟩ (.slice (some ⟨p, 0, none⟩) 64 xr)).setCell ⟨w.heap.size, 2, none⟩ (.slice (some ⟨q, 0, none⟩) 64 xl)) base top (rows5 (⟨some ⟨r, 0, none⟩, xa, some ⟨p, 0, none⟩, xr, some ⟨q, 0, none⟩, xl, xG, xg, xD, xd⟩ : SA) (dropSt s n)) := by rw [hd]; exact O3
    clear hd
    have HF := Lib.hid (show B8 ((((((((((w2.setCell ⟨w.heap.size, 1, none⟩ (.slice (some ⟨p, 0, none⟩) 64 xr)).setCell ⟨w.heap.size, 2, none⟩ (.slice (some ⟨q, 0, none⟩) 64 xl)).setCell ⟨w.heap.size + 1, 0, none⟩ (.slice (some ⟨r, 0, none⟩) 64 xa)).setCell ⟨w.heap.size + 1, 1, none⟩ (.slice (some ⟨p, 0, none⟩) 64 xr)).setCell ⟨w.heap.size + 1, 2, none⟩ (.slice (some ⟨q, 0, none⟩) 64 xl)).setCell ⟨w.heap.size + 1, 3, none⟩ (.int .i64 s.txg)).setCell ⟨w.heap.size + 1, 4, none⟩ (.slice xG s.gone.length xg)).setCell ⟨w.heap.size + 1, 5, none⟩ (.int .i64 s.keep)).setCell ⟨w.heap.size + 1, 6, none⟩ (.slice xD s.dead.length xd)).setCell ⟨w.heap.size + 1, 7, none⟩ (.bool s.same)) (w.heap.size + 1) 28 (.slice (some ⟨r, 0, none⟩) 64 xa) (.slice (some ⟨p, 0, none⟩) 64 xr) (.slice (some ⟨q, 0, none⟩) 64 xl) (.int .i64 s.txg) (.slice xG s.gone.length xg) (.int .i64 s.keep) (.slice xD s.dead.length xd) (.bool s.same) ∧ Own ((((((((((w2.setCell ⟨w.heap.size, 1, none⟩ (.slice (some ⟨p, 0, none⟩) 64 xr)).setCell ⟨w.heap.size, 2, none⟩ (.slice (some ⟨q, 0, none⟩) 64 xl)).setCell ⟨w.heap.size + 1, 0, none⟩ (.slice (some ⟨r, 0, none⟩) 64 xa)).setCell ⟨w.heap.size + 1, 1, none⟩ (.slice (some ⟨p, 0, none⟩) 64 xr)).setCell ⟨w.heap.size + 1, 2, none⟩ (.slice (some ⟨q, 0, none⟩) 64 xl)).setCell ⟨w.heap.size + 1, 3, none⟩ (.int .i64 s.txg)).setCell ⟨w.heap.size + 1, 4, none⟩ (.slice xG s.gone.length xg)).setCell ⟨w.heap.size + 1, 5, none⟩ (.int .i64 s.keep)).setCell ⟨w.heap.size + 1, 6, none⟩ (.slice xD s.dead.length xd)).setCell ⟨w.heap.size + 1, 7, none⟩ (.bool s.same)) base top (rows5 (⟨some ⟨r, 0, none⟩, xa, some ⟨p, 0, none⟩, xr, some ⟨q, 0, none⟩, xl, xG, xg, xD, xd⟩ : SA) (dropSt s n)) ∧ Only base top w ((((((((((w2.setCell ⟨w.heap.size, 1, none⟩ (.slice (some ⟨p, 0, none⟩) 64 xr)).setCell ⟨w.heap.size, 2, none⟩ (.slice (some ⟨q, 0, none⟩) 64 xl)).setCell ⟨w.heap.size + 1, 0, none⟩ (.slice (some ⟨r, 0, none⟩) 64 xa)).setCell ⟨w.heap.size + 1, 1, none⟩ (.slice (some ⟨p, 0, none⟩) 64 xr)).setCell ⟨w.heap.size + 1, 2, none⟩ (.slice (some ⟨q, 0, none⟩) 64 xl)).setCell ⟨w.heap.size + 1, 3, none⟩ (.int .i64 s.txg)).setCell ⟨w.heap.size + 1, 4, none⟩ (.slice xG s.gone.length xg)).setCell ⟨w.heap.size + 1, 5, none⟩ (.int .i64 s.keep)).setCell ⟨w.heap.size + 1, 6, none⟩ (.slice xD s.dead.length xd)).setCell ⟨w.heap.size + 1, 7, none⟩ (.bool s.same)) from ⟨((((((((c3.put0 _).put1 _).put2 _).put3 _).put4 _).put5 _).put6 _).put7 _), ((((((((O3.setA (a := ⟨w.heap.size + 1, 0, none⟩) (Nat.le_succ_of_le htop) _).setA (a := ⟨w.heap.size + 1, 1, none⟩) (Nat.le_succ_of_le htop) _).setA (a := ⟨w.heap.size + 1, 2, none⟩) (Nat.le_succ_of_le htop) _).setA (a := ⟨w.heap.size + 1, 3, none⟩) (Nat.le_succ_of_le htop) _).setA (a := ⟨w.heap.size + 1, 4, none⟩) (Nat.le_succ_of_le htop) _).setA (a := ⟨w.heap.size + 1, 5, none⟩) (Nat.le_succ_of_le htop) _).setA (a := ⟨w.heap.size + 1, 6, none⟩) (Nat.le_succ_of_le htop) _).setA (a := ⟨w.heap.size + 1, 7, none⟩) (Nat.le_succ_of_le htop) _), ((((((((B3.set2 (p := ⟨w.heap.size + 1, 0, none⟩) (Nat.le_succ _) _).set2 (p := ⟨w.heap.size + 1, 1, none⟩) (Nat.le_succ _) _).set2 (p := ⟨w.heap.size + 1, 2, none⟩) (Nat.le_succ _) _).set2 (p := ⟨w.heap.size + 1, 3, none⟩) (Nat.le_succ _) _).set2 (p := ⟨w.heap.size + 1, 4, none⟩) (Nat.le_succ _) _).set2 (p := ⟨w.heap.size + 1, 5, none⟩) (Nat.le_succ _) _).set2 (p := ⟨w.heap.size + 1, 6, none⟩) (Nat.le_succ _) _).set2 (p := ⟨w.heap.size + 1, 7, none⟩) (Nat.le_succ _) _)⟩)
    clear a3 c3 O3 B3
    go_wp2_with fail
    have HF := HF.out
    generalize ((((((((((w2.setCell ⟨w.heap.size, 1, none⟩ (.slice (some ⟨p, 0, none⟩) 64 xr)).setCell ⟨w.heap.size, 2, none⟩ (.slice (some ⟨q, 0, none⟩) 64 xl)).setCell ⟨w.heap.size + 1, 0, none⟩ (.slice (some ⟨r, 0, none⟩) 64 xa)).setCell ⟨w.heap.size + 1, 1, none⟩ (.slice (some ⟨p, 0, none⟩) 64 xr)).setCell ⟨w.heap.size + 1, 2, none⟩ (.slice (some ⟨q, 0, none⟩) 64 xl)).setCell ⟨w.heap.size + 1, 3, none⟩ (.int .i64 s.txg)).setCell ⟨w.heap.size + 1, 4, none⟩ (.slice xG s.gone.length xg)).setCell ⟨w.heap.size + 1, 5, none⟩ (.int .i64 s.keep)).setCell ⟨w.heap.size + 1, 6, none⟩ (.slice xD s.dead.length xd)).setCell ⟨w.heap.size + 1, 7, none⟩ (.bool s.same)) = WF at HF ⊢
    clear x0 x1 x2 x3 x4 x5 x6 x7 f0 f1 f2 f3 f4 f5 f6 f7 y0 y1 y2 y3 y4 y5 y6 y7 g0 g1 g2 g3 g4 g5 g6 g7
    obtain ⟨hb, ho, hy⟩ := HF
    obtain ⟨q0, q1, q2, q3, q4, q5, q6, q7⟩ := hb.cells
    exact bodyPost_ret (v := .agg #[.slice (some ⟨r, 0, none⟩) 64 xa, .slice (some ⟨p, 0, none⟩) 64 xr, .slice (some ⟨q, 0, none⟩) 64 xl, .int .i64 s.txg, .slice xG s.gone.length xg, .int .i64 s.keep, .slice xD s.dead.length xd, .bool s.same]) (by simp [results, Try.f70, go_sem, q0, q1, q2, q3, q4, q5, q6, q7]) rfl ⟨rfl, ho, hy⟩
end Go.Proofs.Ytmnamclndpfjnaa
