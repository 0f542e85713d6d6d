/-
  A copy of a store with another space, as the program makes it.
-/
import Derived.Test.YtmnamclndpfjnaaCpi
import Derived.Test.YtmnamclndpfjnaaNxR
import Derived.Test.YtmnamclndpfjnaaTak
import Derived.Test.YtmnamclndpfjnaaDrq
namespace Go.Proofs.Ytmnamclndpfjnaa
open Go.RowKit

/-- The store is returned: the space's rows are those that were given, the others are the call's own. -/
def WthPost (s : St) (p : Sp) (C : Option Addr) (cc : Nat) (D : Option Addr) (dd : Nat) (w : World) (e : Ending) (w' : World) : Prop :=
  ∃ (r ya : Nat) (yG : Option Addr) (yg : Nat) (yD : Option Addr) (yd : Nat), e = .returned (.agg #[.slice (some ⟨r, 0, none⟩) s.rows.length ya, .slice C 64 cc, .slice D 64 dd, .int .i64 s.txg, .slice yG s.gone.length yg, .int .i64 s.keep, .slice yD s.dead.length yd, .bool s.same]) ∧ Own w' w.heap.size w'.heap.size [⟨9, 1, s.rows.length, .slice (some ⟨r, 0, none⟩) s.rows.length ya, strCells (emptTo p.refs s.rows 64)⟩, ⟨45, 5, s.gone.length, .slice yG s.gone.length yg, flat s.gone⟩, ⟨45, 5, s.dead.length, .slice yD s.dead.length yd, flat s.dead⟩] ∧ Below w.heap.size w w'
theorem sub3 (a b c d e : Rw) : [a, d, e].Sublist [a, b, c, d, e] := .cons_cons _ (.cons _ (.cons _ (List.Sublist.refl _)))

set_option maxRecDepth 100000 in
set_option maxHeartbeats 8000000 in
theorem impl_swith (x : SA) (s : St) (p : Sp) (C D : Option Addr) (cc dd : Nat) (w : World) (hs : SBulk s) (h64 : s.rows.length = 64) (hp1 : p.refs.length = 64) (hA : StAt w x s) (hS : SpAt w C D p) :
    Calls Try.prog 68 #[(.agg #[.slice x.A s.rows.length x.a, .slice x.R s.sp.refs.length x.r, .slice x.L s.sp.last.length x.l, .int .i64 s.txg, .slice x.G s.gone.length x.g, .int .i64 s.keep, .slice x.D s.dead.length x.d, .bool s.same]), .agg #[.slice C 64 cc, .slice D 64 dd]] w (WthPost s p C cc D dd w) := by
  have a := ((B8.new w 28 (.slice x.A s.rows.length x.a) (.slice x.R s.sp.refs.length x.r) (.slice x.L s.sp.last.length x.l) (.int .i64 s.txg) (.slice x.G s.gone.length x.g) (.int .i64 s.keep) (.slice x.D s.dead.length x.d) (.bool s.same)).alloc (.cells #[.slice C 64 cc, .slice D 64 dd] 25)).alloc (.cells #[.slice none 0 0, .slice none 0 0, .slice none 0 0, .int .i64 0, .slice none 0 0, .int .i64 0, .slice none 0 0, .bool false] 28)
  have e := (B2.new (w.alloc (.cells #[.slice x.A s.rows.length x.a, .slice x.R s.sp.refs.length x.r, .slice x.L s.sp.last.length x.l, .int .i64 s.txg, .slice x.G s.gone.length x.g, .int .i64 s.keep, .slice x.D s.dead.length x.d, .bool s.same] 28)) 25 (.slice C 64 cc) (.slice D 64 dd)).alloc (.cells #[.slice none 0 0, .slice none 0 0, .slice none 0 0, .int .i64 0, .slice none 0 0, .int .i64 0, .slice none 0 0, .bool false] 28)
  have c := B8.new ((w.alloc (.cells #[.slice x.A s.rows.length x.a, .slice x.R s.sp.refs.length x.r, .slice x.L s.sp.last.length x.l, .int .i64 s.txg, .slice x.G s.gone.length x.g, .int .i64 s.keep, .slice x.D s.dead.length x.d, .bool s.same] 28)).alloc (.cells #[.slice C 64 cc, .slice D 64 dd] 25)) 28 (.slice none 0 0) (.slice none 0 0) (.slice none 0 0) (.int .i64 0) (.slice none 0 0) (.int .i64 0) (.slice none 0 0) (.bool false)
  have BB := bel_new (bel_new (bel_new (Below.refl w.heap.size w) (.cells #[.slice x.A s.rows.length x.a, .slice x.R s.sp.refs.length x.r, .slice x.L s.sp.last.length x.l, .int .i64 s.txg, .slice x.G s.gone.length x.g, .int .i64 s.keep, .slice x.D s.dead.length x.d, .bool s.same] 28)) (.cells #[.slice C 64 cc, .slice D 64 dd] 25)) (.cells #[.slice none 0 0, .slice none 0 0, .slice none 0 0, .int .i64 0, .slice none 0 0, .int .i64 0, .slice none 0 0, .bool false] 28)
  have sz : (((w.alloc (.cells #[.slice x.A s.rows.length x.a, .slice x.R s.sp.refs.length x.r, .slice x.L s.sp.last.length x.l, .int .i64 s.txg, .slice x.G s.gone.length x.g, .int .i64 s.keep, .slice x.D s.dead.length x.d, .bool s.same] 28)).alloc (.cells #[.slice C 64 cc, .slice D 64 dd] 25)).alloc (.cells #[.slice none 0 0, .slice none 0 0, .slice none 0 0, .int .i64 0, .slice none 0 0, .int .i64 0, .slice none 0 0, .bool false] 28)).heap.size = w.heap.size + 1 + 1 + 1 := by rw [World.size_alloc, World.size_alloc, World.size_alloc]
  rw [World.size_alloc] at e
  rw [World.size_alloc, World.size_alloc] at c
  have hC := fun W (hW : Below w.heap.size w W) => impl_copied x s W hs.rows hs.refs hs.last hs.gone hs.dead (hA.below hW)
  have hR := fun W (hW : Below w.heap.size w W) => hS.1.below hW
  have H64 := Lib.hid h64
  have HP1 := Lib.hid hp1
  have h60 : (0 : Nat) < s.rows.length := by omega
  clear hs hA hS h64 hp1
  go_enter Try.func68, Try.ntmps68
  go_upto_region 1 with fail
  obtain ⟨W0, hW0⟩ : ∃ W, W = (((w.alloc (.cells #[.slice x.A s.rows.length x.a, .slice x.R s.sp.refs.length x.r, .slice x.L s.sp.last.length x.l, .int .i64 s.txg, .slice x.G s.gone.length x.g, .int .i64 s.keep, .slice x.D s.dead.length x.d, .bool s.same] 28)).alloc (.cells #[.slice C 64 cc, .slice D 64 dd] 25)).alloc (.cells #[.slice none 0 0, .slice none 0 0, .slice none 0 0, .int .i64 0, .slice none 0 0, .int .i64 0, .slice none 0 0, .bool false] 28)) := ⟨_, rfl⟩
  rw [← hW0] at a e c BB sz ⊢
  clear hW0
  replace sz := Nat.le_of_eq sz.symm
  obtain ⟨x0, x1, x2, x3, x4, x5, x6, x7⟩ := a.cells
  have L := hC W0 BB
  unfold TPost at L
  go_wp2_with (go_at_call 98; refine L.mono ?_; rintro rr w1 ⟨y, rfl, O, hb1⟩; refine Hid.out ?_)
  refine Lib.hid ?_
  clear x0 x1 x2 x3 x4 x5 x6 x7 hC L a
  obtain ⟨yA, ya, yR, yr, yL, yl, yG, yg, yD, yd⟩ := y
  obtain ⟨r, e1⟩ := own_addr (O.row 0 (by decide : 0 < 5)) h60
  dsimp only at e1 ⊢
  subst e1
  have hr := (O.row 0 (by decide : 0 < 5)).lt r rfl
  have e := e.below hb1
  have c := c.below hb1
  have BB := bel_then BB hb1
  have s1 := Nat.le_trans sz hb1.size
  obtain ⟨⟨z0, z1⟩, _, _⟩ := e.cells
  have al := fun o => ((Below.refl w1.heap.size w1).alloc (Nat.le_refl _) o)
  have d := B8.new w1 28 (.slice (some ⟨r, 0, none⟩) s.rows.length ya) (.slice C 64 cc) (.slice D 64 dd) (.int .i64 s.txg) (.slice yG s.gone.length yg) (.int .i64 s.keep) (.slice yD s.dead.length yd) (.bool s.same)
  have P := ((O.sub (sub3 _ _ _ _ _)).below (al (.cells #[.slice (some ⟨r, 0, none⟩) s.rows.length ya, .slice C 64 cc, .slice D 64 dd, .int .i64 s.txg, .slice yG s.gone.length yg, .int .i64 s.keep, .slice yD s.dead.length yd, .bool s.same] 28)))
  have c := c.alloc (.cells #[.slice (some ⟨r, 0, none⟩) s.rows.length ya, .slice C 64 cc, .slice D 64 dd, .int .i64 s.txg, .slice yG s.gone.length yg, .int .i64 s.keep, .slice yD s.dead.length yd, .bool s.same] 28)
  have e := e.alloc (.cells #[.slice (some ⟨r, 0, none⟩) s.rows.length ya, .slice C 64 cc, .slice D 64 dd, .int .i64 s.txg, .slice yG s.gone.length yg, .int .i64 s.keep, .slice yD s.dead.length yd, .bool s.same] 28)
  have BB := bel_new BB (.cells #[.slice (some ⟨r, 0, none⟩) s.rows.length ya, .slice C 64 cc, .slice D 64 dd, .int .i64 s.txg, .slice yG s.gone.length yg, .int .i64 s.keep, .slice yD s.dead.length yd, .bool s.same] 28)
  have hne : r < w1.heap.size := hr.2
  have hge : w.heap.size + 1 + 1 + 1 ≤ r := by have := hr.1; omega
  have hl1 : w.heap.size + 1 < w1.heap.size := by omega
  go_upto_region 3 with fail
  generalize w1.alloc (.cells #[.slice (some ⟨r, 0, none⟩) s.rows.length ya, .slice C 64 cc, .slice D 64 dd, .int .i64 s.txg, .slice yG s.gone.length yg, .int .i64 s.keep, .slice yD s.dead.length yd, .bool s.same] 28) = W2 at d P c e BB ⊢
  clear z0 z1 O al
  obtain ⟨⟨z0, z1⟩, _, _⟩ := e.cells
  have P0 : Own W2 W0.heap.size w1.heap.size [⟨9, 1, s.rows.length, .slice (some ⟨r, 0, none⟩) s.rows.length ya, strCells (emptTo p.refs s.rows 0)⟩, ⟨45, 5, s.gone.length, .slice yG s.gone.length yg, flat s.gone⟩, ⟨45, 5, s.dead.length, .slice yD s.dead.length yd, flat s.dead⟩] := by rw [emptTo_zero]; exact P
  go_wp2_with fail
  clear z0 z1 e P hr
  go_loopw [6, 7, 15] (fun _ _ i wr => ∃ (k : Nat), k ≤ 64 ∧ i = .int .i64 k ∧ B8 wr w1.heap.size 28 (.slice (some ⟨r, 0, none⟩) s.rows.length ya) (.slice C 64 cc) (.slice D 64 dd) (.int .i64 s.txg) (.slice yG s.gone.length yg) (.int .i64 s.keep) (.slice yD s.dead.length yd) (.bool s.same) ∧ B8 wr (w.heap.size + 1 + 1) 28 (.slice none 0 0) (.slice none 0 0) (.slice none 0 0) (.int .i64 0) (.slice none 0 0) (.int .i64 0) (.slice none 0 0) (.bool false) ∧ Own wr W0.heap.size w1.heap.size [⟨9, 1, s.rows.length, .slice (some ⟨r, 0, none⟩) s.rows.length ya, strCells (emptTo p.refs s.rows k)⟩, ⟨45, 5, s.gone.length, .slice yG s.gone.length yg, flat s.gone⟩, ⟨45, 5, s.dead.length, .slice yD s.dead.length yd, flat s.dead⟩] ∧ Below w.heap.size w wr) (fun _ _ i _ => 64 - (intOf i).toNat)
  case atStart => exact ⟨0, by omega, rfl, d, c, P0, BB⟩
  case round =>
    obtain ⟨k, hk, rfl, d, c, P, BB⟩ := hrel
    clear P0
    obtain ⟨y0, y1, y2, y3, y4, y5, y6, y7⟩ := d.cells
    have hdl := d.lt
    by_cases hlt : k < 64
    · have hki : (k : Int) < 64 := by omega
      have hk2 : k < p.refs.length := by have := HP1.out; omega
      obtain ⟨b2, o2, rfl, hl2, hc2⟩ := (hR wr BB).int k hk2
      have hg : p.refs.getD k 0 = p.refs[k] := by rw [List.getD_eq_getElem?_getD, List.getElem?_eq_getElem hk2, Option.getD_some]
      obtain ⟨u, hu⟩ : ∃ u, u = p.refs[k] := ⟨_, rfl⟩
      rw [← hu] at hc2 hg
      have hrow := P.row 0 (by decide : 0 < 3)
      simp only [List.getElem_cons_zero] at hrow
      have fr := hrow.frozenAt k
      have cr := hrow.cellAt k (by have := H64.out; omega)
      rw [strCells_at _ k (by rw [emptTo_len, H64.out]; exact hlt)] at cr
      have st := (hrow.stored k (.string ⟨#[]⟩)).1
      have hk64 : (k : Int) < (s.rows.length : Int) := by rw [H64.out]; exact hki
      by_cases hu0 : u = 0
      · subst hu0
        rw [strCells_set] at st
        have st : (wr.setCell ⟨r, k, none⟩ (.string ⟨#[]⟩)).ownsRow W0.heap.size 9 1 (.slice (some ⟨r, 0, none⟩) s.rows.length ya) s.rows.length (strCells (emptTo p.refs s.rows (k + 1))) := by rw [emptTo_yes hg]; exact st
        have P2 := P.put 0 (by decide : 0 < 3) (r := ⟨9, 1, s.rows.length, .slice (some ⟨r, 0, none⟩) s.rows.length ya, strCells (emptTo p.refs s.rows (k + 1))⟩) rfl (grown_set _ ⟨r, k, none⟩ (.string ⟨#[]⟩)) st
        have d2 := d.set (p := ⟨r, k, none⟩) (by show w1.heap.size ≠ r; omega) (.string ⟨#[]⟩)
        have c2 := c.set (p := ⟨r, k, none⟩) (by show w.heap.size + 1 + 1 ≠ r; omega) (.string ⟨#[]⟩)
        have B2 := BB.setCell (p := ⟨r, k, none⟩) (by show w.heap.size ≤ r; omega) (.string ⟨#[]⟩)
        clear st P d c BB hu hg hrow
        go_wp2_with fail
        go_roundw
        · exact ⟨k + 1, by omega, by go_num, d2, c2, P2, B2⟩
        · show 64 - ((k : Int) + 1).toNat < 64 - (k : Int).toNat
          omega
      · have hu9 : (u == 0) = false := by simpa using hu0
        rw [← emptTo_no (by rw [hg]; exact hu0)] at P
        clear st hu hg hrow
        go_wp2_with fail
        go_roundw
        · exact ⟨k + 1, by omega, by go_num, d, c, P, BB⟩
        · show 64 - ((k : Int) + 1).toNat < 64 - (k : Int).toNat
          omega
    · have he : k = 64 := by omega
      subst he
      have hki : ¬ (64 : Int) < 64 := by omega
      obtain ⟨z0, z1, z2, z3, z4, z5, z6, z7⟩ := c.cells
      obtain ⟨f0, f1, f2, f3, f4, f5, f6, f7⟩ := c.fro
      go_wp2_with fail
      have OG := (set8_own (H := w.heap.size + 1 + 1) (u0 := .slice (some ⟨r, 0, none⟩) s.rows.length ya) (u1 := .slice C 64 cc) (u2 := .slice D 64 dd) (u3 := .int .i64 s.txg) (u4 := .slice yG s.gone.length yg) (u5 := .int .i64 s.keep) (u6 := .slice yD s.dead.length yd) (u7 := .bool s.same) P (by omega)).at_top.base (base' := w.heap.size) (by omega)
      have QB := set8_box (H := w.heap.size + 1 + 1) (u0 := .slice (some ⟨r, 0, none⟩) s.rows.length ya) (u1 := .slice C 64 cc) (u2 := .slice D 64 dd) (u3 := .int .i64 s.txg) (u4 := .slice yG s.gone.length yg) (u5 := .int .i64 s.keep) (u6 := .slice yD s.dead.length yd) (u7 := .bool s.same) c
      have BE := set8_bel (H := w.heap.size + 1 + 1) (u0 := .slice (some ⟨r, 0, none⟩) s.rows.length ya) (u1 := .slice C 64 cc) (u2 := .slice D 64 dd) (u3 := .int .i64 s.txg) (u4 := .slice yG s.gone.length yg) (u5 := .int .i64 s.keep) (u6 := .slice yD s.dead.length yd) (u7 := .bool s.same) BB (by omega)
      change bodyPost Try.prog Try.f68 _ Exit.ret _ (((((((((wr.setCell ⟨w.heap.size + 1 + 1, 0, none⟩ (.slice (some ⟨r, 0, none⟩) s.rows.length ya)).setCell ⟨w.heap.size + 1 + 1, 1, none⟩ (.slice C 64 cc)).setCell ⟨w.heap.size + 1 + 1, 2, none⟩ (.slice D 64 dd)).setCell ⟨w.heap.size + 1 + 1, 3, none⟩ (.int .i64 s.txg)).setCell ⟨w.heap.size + 1 + 1, 4, none⟩ (.slice yG s.gone.length yg)).setCell ⟨w.heap.size + 1 + 1, 5, none⟩ (.int .i64 s.keep)).setCell ⟨w.heap.size + 1 + 1, 6, none⟩ (.slice yD s.dead.length yd)).setCell ⟨w.heap.size + 1 + 1, 7, none⟩ (.bool s.same)))
      generalize ((((((((wr.setCell ⟨w.heap.size + 1 + 1, 0, none⟩ (.slice (some ⟨r, 0, none⟩) s.rows.length ya)).setCell ⟨w.heap.size + 1 + 1, 1, none⟩ (.slice C 64 cc)).setCell ⟨w.heap.size + 1 + 1, 2, none⟩ (.slice D 64 dd)).setCell ⟨w.heap.size + 1 + 1, 3, none⟩ (.int .i64 s.txg)).setCell ⟨w.heap.size + 1 + 1, 4, none⟩ (.slice yG s.gone.length yg)).setCell ⟨w.heap.size + 1 + 1, 5, none⟩ (.int .i64 s.keep)).setCell ⟨w.heap.size + 1 + 1, 6, none⟩ (.slice yD s.dead.length yd)).setCell ⟨w.heap.size + 1 + 1, 7, none⟩ (.bool s.same)) = WF at OG QB BE ⊢
      clear y0 y1 y2 y3 y4 y5 y6 y7 z0 z1 z2 z3 z4 z5 z6 z7 f0 f1 f2 f3 f4 f5 f6 f7 c d P BB
      obtain ⟨q0, q1, q2, q3, q4, q5, q6, q7⟩ := QB.cells
      exact bodyPost_ret (v := .agg #[.slice (some ⟨r, 0, none⟩) s.rows.length ya, .slice C 64 cc, .slice D 64 dd, .int .i64 s.txg, .slice yG s.gone.length yg, .int .i64 s.keep, .slice yD s.dead.length yd, .bool s.same]) (by simp [results, Try.f68, go_sem, q0, q1, q2, q3, q4, q5, q6, q7]) rfl ⟨_, _, _, _, _, _, rfl, OG, BE⟩
end Go.Proofs.Ytmnamclndpfjnaa
