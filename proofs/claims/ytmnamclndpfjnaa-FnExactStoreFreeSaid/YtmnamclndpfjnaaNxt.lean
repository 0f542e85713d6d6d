/-
  The end of a group, as the specification makes it of a store in the call's own memory.
  The store of the next group, as the specification makes it.
-/
import Derived.Test.YtmnamclndpfjnaaDrq
import Derived.Test.YtmnamclndpfjnaaNxR
import Derived.Test.YtmnamclndpfjnaaStNa
import Derived.Test.YtmnamclndpfjnaaTak
import Derived.Test.YtmnamclndpfjnaaPOk
import Derived.Test.YtmnamclndpfjnaaLCp

namespace Go.Proofs.Ytmnamclndpfjnaa
open Go.RowKit

theorem own_nil1 (w : World) (base top : Nat) : Own w base top [⟨45, 5, 0, .slice none 0 0, flat []⟩] := by
  refine ⟨fun r hr => ?_, List.pairwise_singleton _ _⟩
  rw [List.mem_singleton] at hr
  subst hr
  exact ⟨⟨rfl, .inl ⟨rfl, rfl⟩⟩, fun k hk => by cases hk⟩
theorem flat_nil_own {w : World} {g : Nat} (h : w.heap[g]? = some (.cells #[] 45 (0, 0))) : Own w g (g + 1) [⟨45, 5, 0, .slice (some ⟨g, 0, none⟩) 0 0, flat []⟩] := blk_own (n := 0) (sz := 5) h rfl (by unfold maxLen; omega)
/-- Another list of pointers, made behind, in Gone's place. -/
theorem own_gone {w : World} {base top mid top' : Nat} {x : SA} {s : St} {A : Option Addr} {c : Nat} {L : List P5} (h : Own w base top (rows5 x s)) (hm : Own w mid top' [⟨45, 5, L.length, .slice A L.length c, flat L⟩])
    (h1 : top ≤ mid) (h2 : base ≤ mid) (h3 : top ≤ top') : Own w base top' (rows5 { x with G := A, g := c } { s with gone := L }) := by
  have k := (h.sub (M := [⟨9, 1, s.rows.length, .slice x.A s.rows.length x.a, strCells s.rows⟩, ⟨3, 1, s.sp.refs.length, .slice x.R s.sp.refs.length x.r, intCells s.sp.refs⟩, ⟨3, 1, s.sp.last.length, .slice x.L s.sp.last.length x.l, intCells s.sp.last⟩, ⟨45, 5, s.dead.length, .slice x.D s.dead.length x.d, flat s.dead⟩]) (.cons_cons _ (.cons_cons _ (.cons_cons _ (.cons _ (List.Sublist.refl _)))))).more hm h1 h2 h3
  exact k.perm (.cons _ (.cons _ (.cons _ (.swap _ _ _))))
/-- .. in Dead's. -/
theorem own_dead {w : World} {base top mid top' : Nat} {x : SA} {s : St} {A : Option Addr} {c : Nat} {L : List P5} (h : Own w base top (rows5 x s)) (hm : Own w mid top' [⟨45, 5, L.length, .slice A L.length c, flat L⟩])
    (h1 : top ≤ mid) (h2 : base ≤ mid) (h3 : top ≤ top') : Own w base top' (rows5 { x with D := A, d := c } { s with dead := L }) :=
  (h.sub (M := [⟨9, 1, s.rows.length, .slice x.A s.rows.length x.a, strCells s.rows⟩, ⟨3, 1, s.sp.refs.length, .slice x.R s.sp.refs.length x.r, intCells s.sp.refs⟩, ⟨3, 1, s.sp.last.length, .slice x.L s.sp.last.length x.l, intCells s.sp.last⟩, ⟨45, 5, s.gone.length, .slice x.G s.gone.length x.g, flat s.gone⟩]) (.cons_cons _ (.cons_cons _ (.cons_cons _ (.cons_cons _ (.cons _ (List.Sublist.refl _))))))).more hm h1 h2 h3
section
variable {W : World} {H base top : Nat} {u0 u1 u2 u3 u4 u5 u6 u7 : Value} {L : List Rw}
theorem set8_ownA (h : Own W base top L) (hH : top ≤ H) : Own ((((((((W.setCell ⟨H, 0, none⟩ u0).setCell ⟨H, 1, none⟩ u1).setCell ⟨H, 2, none⟩ u2).setCell ⟨H, 3, none⟩ u3).setCell ⟨H, 4, none⟩ u4).setCell ⟨H, 5, none⟩ u5).setCell ⟨H, 6, none⟩ u6).setCell ⟨H, 7, none⟩ u7) base top L :=
  (((((((h.setA hH _).setA hH _).setA hH _).setA hH _).setA hH _).setA hH _).setA hH _).setA hH _
end
/-- What is returned: a store in memory from base on, of which nothing below has turned. -/
def NxPost (s : St) (base : Nat) (w : World) (e : Ending) (w' : World) : Prop := ∃ x : SA, e = .returned (.agg #[.slice x.A s.rows.length x.a, .slice x.R s.sp.refs.length x.r, .slice x.L s.sp.last.length x.l, .int .i64 s.txg, .slice x.G s.gone.length x.g, .int .i64 s.keep, .slice x.D s.dead.length x.d, .bool s.same]) ∧ Own w' base w'.heap.size (rows5 x s) ∧ Below base w w'

set_option maxRecDepth 100000 in
set_option maxHeartbeats 8000000 in
theorem spec_l7next (p q r xa xr xl xg xd base top : Nat) (xG xD : Option Addr) (s : St) (w : World) (hok : StOk s) (hgl : s.gone.length ≤ 1048576) (htop : top ≤ w.heap.size) (hO : Own w base top (rows5 (⟨some ⟨r, 0, none⟩, xa, some ⟨p, 0, none⟩, xr, some ⟨q, 0, none⟩, xl, xG, xg, xD, xd⟩ : SA) s)) :
    Calls Try.prog 67 #[.agg #[.slice (some ⟨r, 0, none⟩) 64 xa, .slice (some ⟨p, 0, none⟩) 64 xr, .slice (some ⟨q, 0, none⟩) 64 xl, .int .i64 s.txg, .slice xG s.gone.length xg, .int .i64 s.keep, .slice xD s.dead.length xd, .bool s.same]] w (NxPost (nextSt s) base w) := by
  have a0 := (B8.new w 28 (.slice (some ⟨r, 0, none⟩) 64 xa) (.slice (some ⟨p, 0, none⟩) 64 xr) (.slice (some ⟨q, 0, none⟩) 64 xl) (.int .i64 s.txg) (.slice xG s.gone.length xg) (.int .i64 s.keep) (.slice xD s.dead.length xd) (.bool s.same)).alloc (.cells #[.slice none 0 0, .slice none 0 0, .slice none 0 0, .int .i64 0, .slice none 0 0, .int .i64 0, .slice none 0 0, .bool false] 28)
  have c0 := B8.new (w.alloc (.cells #[.slice (some ⟨r, 0, none⟩) 64 xa, .slice (some ⟨p, 0, none⟩) 64 xr, .slice (some ⟨q, 0, none⟩) 64 xl, .int .i64 s.txg, .slice xG s.gone.length xg, .int .i64 s.keep, .slice xD s.dead.length xd, .bool s.same] 28)) 28 (.slice none 0 0) (.slice none 0 0) (.slice none 0 0) (.int .i64 0) (.slice none 0 0) (.int .i64 0) (.slice none 0 0) (.bool false)
  rw [World.size_alloc] at c0
  have hrt : base ≤ r ∧ r < w.heap.size := (hO.row 0 (by decide : 0 < 5)).lt r rfl
  have hrp : r < top := (hO.1 _ (List.getElem_mem (by decide : 0 < 5))).2 r rfl
  have hbw : base ≤ w.heap.size := by omega
  have B0 := (bel_new (bel_new (Below.refl w.heap.size w) (.cells #[.slice (some ⟨r, 0, none⟩) 64 xa, .slice (some ⟨p, 0, none⟩) 64 xr, .slice (some ⟨q, 0, none⟩) 64 xl, .int .i64 s.txg, .slice xG s.gone.length xg, .int .i64 s.keep, .slice xD s.dead.length xd, .bool s.same] 28)) (.cells #[.slice none 0 0, .slice none 0 0, .slice none 0 0, .int .i64 0, .slice none 0 0, .int .i64 0, .slice none 0 0, .bool false] 28)).mono hbw
  have O0 := hO.below (bel_new (bel_new (Below.refl w.heap.size w) (.cells #[.slice (some ⟨r, 0, none⟩) 64 xa, .slice (some ⟨p, 0, none⟩) 64 xr, .slice (some ⟨q, 0, none⟩) 64 xl, .int .i64 s.txg, .slice xG s.gone.length xg, .int .i64 s.keep, .slice xD s.dead.length xd, .bool s.same] 28)) (.cells #[.slice none 0 0, .slice none 0 0, .slice none 0 0, .int .i64 0, .slice none 0 0, .int .i64 0, .slice none 0 0, .bool false] 28))
  have sz : ((w.alloc (.cells #[.slice (some ⟨r, 0, none⟩) 64 xa, .slice (some ⟨p, 0, none⟩) 64 xr, .slice (some ⟨q, 0, none⟩) 64 xl, .int .i64 s.txg, .slice xG s.gone.length xg, .int .i64 s.keep, .slice xD s.dead.length xd, .bool s.same] 28)).alloc (.cells #[.slice none 0 0, .slice none 0 0, .slice none 0 0, .int .i64 0, .slice none 0 0, .int .i64 0, .slice none 0 0, .bool false] 28)).heap.size = w.heap.size + 1 + 1 := by rw [World.size_alloc, World.size_alloc]
  have hst := fun {k : Nat} {t : St} (hk : k < s.gone.length) (d : DropR s k t) => dropR_step hok hk d
  have h0 := dropR_start hok
  have hend := fun {t : St} (d : DropR s s.gone.length t) => dropR_end hok d
  have htx := hok.txg
  have l1 : s.rows.length = 64 := hok.len
  clear hO hok
  obtain ⟨W0, hW0⟩ : ∃ W, W = (w.alloc (.cells #[.slice (some ⟨r, 0, none⟩) 64 xa, .slice (some ⟨p, 0, none⟩) 64 xr, .slice (some ⟨q, 0, none⟩) 64 xl, .int .i64 s.txg, .slice xG s.gone.length xg, .int .i64 s.keep, .slice xD s.dead.length xd, .bool s.same] 28)).alloc (.cells #[.slice none 0 0, .slice none 0 0, .slice none 0 0, .int .i64 0, .slice none 0 0, .int .i64 0, .slice none 0 0, .bool false] 28) := ⟨_, rfl⟩
  go_enter Try.func67, Try.ntmps67
  go_upto_region 1 with fail
  rw [← hW0] at a0 c0 B0 O0 sz ⊢
  clear hW0
  replace sz := Nat.le_of_eq sz.symm
  go_wp2_with fail
  go_loopw [3] (fun i wr => ∃ (k : Nat) (t : St), k ≤ s.gone.length ∧ i = .int .i64 k ∧ DropR s k t ∧ B8 wr w.heap.size 28 (.slice (some ⟨r, 0, none⟩) 64 xa) (.slice (some ⟨p, 0, none⟩) 64 xr) (.slice (some ⟨q, 0, none⟩) 64 xl) (.int .i64 s.txg) (.slice xG s.gone.length xg) (.int .i64 s.keep) (.slice xD s.dead.length xd) (.bool s.same) ∧ B8 wr (w.heap.size + 1) 28 (.slice none 0 0) (.slice none 0 0) (.slice none 0 0) (.int .i64 0) (.slice none 0 0) (.int .i64 0) (.slice none 0 0) (.bool false) ∧ Own wr base top (rows5 (⟨some ⟨r, 0, none⟩, xa, some ⟨p, 0, none⟩, xr, some ⟨q, 0, none⟩, xl, xG, xg, xD, xd⟩ : SA) t) ∧ Below base w wr ∧ w.heap.size + 1 + 1 ≤ wr.heap.size) (fun i _ => s.gone.length - (intOf i).toNat)
  case atStart => exact ⟨0, s, Nat.zero_le _, rfl, h0, a0, c0, O0, B0, sz⟩
  case round =>
    obtain ⟨k, t, hk, rfl, D, a4, c4, O4, B4, s4⟩ := hrel
    clear O0 a0 c0 B0 h0 sz
    obtain ⟨y0, y1, y2, y3, y4, y5, y6, y7⟩ := a4.cells
    obtain ⟨g0, g1, g2, g3, g4, g5, g6, g7⟩ := a4.fro
    have hl4 := a4.lt
    by_cases hlt : k < s.gone.length
    · have hki : (k : Int) < (s.gone.length : Int) := by omega
      obtain ⟨n, hn, hn64, hb, D2⟩ := hst hlt D
      have hG := O4.at5.gone
      rw [D.at_.gone] at hG
      obtain ⟨a, b, cs, d, e, hp⟩ : ∃ a b cs d e, s.gone[k] = ⟨a, b, cs, d, e⟩ := ⟨_, _, _, _, _, rfl⟩
      obtain ⟨bb, off, hxG, hlb, z0, z1, z2, z3, z4⟩ := hG.five k hlt hp
      rw [hp] at hn
      simp only at hn hxG
      subst hn hxG
      have L := spec_l7drop p q r xa xr xl xg xd n base top (some ⟨bb, off, none⟩) xD t wr.drew hn64 D.at_.rows D.at_.ok.1 D.at_.ok.2.1 hb (by rw [World.size_drew]; omega) O4.drew
      unfold DropPost at L
      rw [D.at_.txg, D.at_.gone, D.at_.keep, D.at_.dead, D.at_.same] at L
      go_wp2_with fail
      go_region_with (first | (go_at_call 70; go_loud (refine L.mono ?_; rintro ee w5 ⟨rfl, O5, N5⟩; have c5 := B8.only (W := wr.drew) c4 N5 (by omega); have a5 := B8.only (W := wr.drew) a4 N5 (by omega); have hl5 := N5.size; obtain ⟨y0, y1, y2, y3, y4, y5, y6, y7⟩ := a5.cells; obtain ⟨g0, g1, g2, g3, g4, g5, g6, g7⟩ := a5.fro)))
      all_goals have hl6 := Nat.le_trans s4 (Nat.le_trans (Nat.le_of_eq (World.size_drew wr).symm) hl5)
      all_goals go_wp2_with fail
      all_goals go_roundw
      all_goals first
        | (case rel => exact ⟨k + 1, dropSt t n, by omega, by go_num, D2, ((((((((a5.put0 _).put1 _).put2 _).put3 _).put4 _).put5 _).put6 _).put7 _), ((((((((c5.set (p := ⟨w.heap.size, 0, none⟩) (by show w.heap.size + 1 ≠ w.heap.size; omega) _).set (p := ⟨w.heap.size, 1, none⟩) (by show w.heap.size + 1 ≠ w.heap.size; omega) _).set (p := ⟨w.heap.size, 2, none⟩) (by show w.heap.size + 1 ≠ w.heap.size; omega) _).set (p := ⟨w.heap.size, 3, none⟩) (by show w.heap.size + 1 ≠ w.heap.size; omega) _).set (p := ⟨w.heap.size, 4, none⟩) (by show w.heap.size + 1 ≠ w.heap.size; omega) _).set (p := ⟨w.heap.size, 5, none⟩) (by show w.heap.size + 1 ≠ w.heap.size; omega) _).set (p := ⟨w.heap.size, 6, none⟩) (by show w.heap.size + 1 ≠ w.heap.size; omega) _).set (p := ⟨w.heap.size, 7, none⟩) (by show w.heap.size + 1 ≠ w.heap.size; omega) _), ((((((((O5.setA (a := ⟨w.heap.size, 0, none⟩) htop _).setA (a := ⟨w.heap.size, 1, none⟩) htop _).setA (a := ⟨w.heap.size, 2, none⟩) htop _).setA (a := ⟨w.heap.size, 3, none⟩) htop _).setA (a := ⟨w.heap.size, 4, none⟩) htop _).setA (a := ⟨w.heap.size, 5, none⟩) htop _).setA (a := ⟨w.heap.size, 6, none⟩) htop _).setA (a := ⟨w.heap.size, 7, none⟩) htop _), (((((((((B4.drew.trans (N5.below (B := base) (Nat.le_refl _) (by rw [World.size_drew]; omega))).setCell (p := ⟨w.heap.size, 0, none⟩) hbw _).setCell (p := ⟨w.heap.size, 1, none⟩) hbw _).setCell (p := ⟨w.heap.size, 2, none⟩) hbw _).setCell (p := ⟨w.heap.size, 3, none⟩) hbw _).setCell (p := ⟨w.heap.size, 4, none⟩) hbw _).setCell (p := ⟨w.heap.size, 5, none⟩) hbw _).setCell (p := ⟨w.heap.size, 6, none⟩) hbw _).setCell (p := ⟨w.heap.size, 7, none⟩) hbw _), by simp only [size_set]; exact hl6⟩)
        | (case measure => show s.gone.length - ((k : Int) + 1).toNat < s.gone.length - (k : Int).toNat; omega)
    · have he : k = s.gone.length := by omega
      subst he
      have hki : ¬ ((s.gone.length : Int) < (s.gone.length : Int)) := by omega
      have hE := hend D
      have D4 : (nextSt s).rows.length = 64 ∧ (nextSt s).sp.refs.length = 64 ∧ (nextSt s).sp.last.length = 64 := by rw [← hE]; exact ⟨D.at_.rows, D.at_.ok.1, D.at_.ok.2.1⟩
      clear hst hend D
      have hr4 := D4
      go_upto_region 7 with fail
      have hb4 : base ≤ wr.heap.size := by omega
      have a5 := ((a4.put4 (.slice (some ⟨wr.heap.size, 0, none⟩) 0 0)).put3 (.int .i64 (s.txg + 1))).alloc (.cells #[] 45)
      have c5 := ((c4.set (p := ⟨w.heap.size, 4, none⟩) (by show w.heap.size + 1 ≠ w.heap.size; omega) (.slice (some ⟨wr.heap.size, 0, none⟩) 0 0)).set (p := ⟨w.heap.size, 3, none⟩) (by show w.heap.size + 1 ≠ w.heap.size; omega) (.int .i64 (s.txg + 1))).alloc (.cells #[] 45)
      have O5 := ((O4.setA (a := ⟨w.heap.size, 4, none⟩) htop (.slice (some ⟨wr.heap.size, 0, none⟩) 0 0)).setA (a := ⟨w.heap.size, 3, none⟩) htop (.int .i64 (s.txg + 1))).alloc (.cells #[] 45)
      have B5 := ((B4.setCell (p := ⟨w.heap.size, 4, none⟩) hbw (.slice (some ⟨wr.heap.size, 0, none⟩) 0 0)).setCell (p := ⟨w.heap.size, 3, none⟩) hbw (.int .i64 (s.txg + 1))).alloc (by simp only [size_set]; exact hb4) (.cells #[] 45)
      have n5 : (((wr.setCell ⟨w.heap.size, 4, none⟩ (.slice (some ⟨wr.heap.size, 0, none⟩) 0 0)).setCell ⟨w.heap.size, 3, none⟩ (.int .i64 (s.txg + 1))).alloc (.cells #[] 45)).heap[wr.heap.size]? = some (.cells #[] 45 (0, 0)) := hnw (by simp only [size_set])
      generalize ((wr.setCell ⟨w.heap.size, 4, none⟩ (.slice (some ⟨wr.heap.size, 0, none⟩) 0 0)).setCell ⟨w.heap.size, 3, none⟩ (.int .i64 (s.txg + 1))).alloc (.cells #[] 45) = W5 at a5 c5 O5 B5 n5 ⊢
      clear a4 c4 O4 B4 y0 y1 y2 y3 y4 y5 y6 y7 g0 g1 g2 g3 g4 g5 g6 g7
      obtain ⟨y0, y1, y2, y3, y4, y5, y6, y7⟩ := a5.cells
      obtain ⟨z0, z1, z2, z3, z4, z5, z6, z7⟩ := c5.cells
      obtain ⟨f0, f1, f2, f3, f4, f5, f6, f7⟩ := c5.fro
      go_wp2_with fail
      have OG := (own_gone (top' := wr.heap.size + 1) (L := []) (set8_ownA (H := w.heap.size + 1) (u0 := .slice (some ⟨r, 0, none⟩) 64 xa) (u1 := .slice (some ⟨p, 0, none⟩) 64 xr) (u2 := .slice (some ⟨q, 0, none⟩) 64 xl) (u3 := .int .i64 (s.txg + 1)) (u4 := .slice (some ⟨wr.heap.size, 0, none⟩) 0 0) (u5 := .int .i64 s.keep) (u6 := .slice xD s.dead.length xd) (u7 := .bool s.same) O5 (by omega)) (flat_nil_own (set8_heap (H := w.heap.size + 1) (u0 := .slice (some ⟨r, 0, none⟩) 64 xa) (u1 := .slice (some ⟨p, 0, none⟩) 64 xr) (u2 := .slice (some ⟨q, 0, none⟩) 64 xl) (u3 := .int .i64 (s.txg + 1)) (u4 := .slice (some ⟨wr.heap.size, 0, none⟩) 0 0) (u5 := .int .i64 s.keep) (u6 := .slice xD s.dead.length xd) (u7 := .bool s.same) (by omega) n5)) (by omega) hb4 (by omega)).at_top
      have QB := set8_box (u0 := .slice (some ⟨r, 0, none⟩) 64 xa) (u1 := .slice (some ⟨p, 0, none⟩) 64 xr) (u2 := .slice (some ⟨q, 0, none⟩) 64 xl) (u3 := .int .i64 (s.txg + 1)) (u4 := .slice (some ⟨wr.heap.size, 0, none⟩) 0 0) (u5 := .int .i64 s.keep) (u6 := .slice xD s.dead.length xd) (u7 := .bool s.same) c5
      have BE := set8_bel (H := w.heap.size + 1) (u0 := .slice (some ⟨r, 0, none⟩) 64 xa) (u1 := .slice (some ⟨p, 0, none⟩) 64 xr) (u2 := .slice (some ⟨q, 0, none⟩) 64 xl) (u3 := .int .i64 (s.txg + 1)) (u4 := .slice (some ⟨wr.heap.size, 0, none⟩) 0 0) (u5 := .int .i64 s.keep) (u6 := .slice xD s.dead.length xd) (u7 := .bool s.same) B5 (by omega)
      change bodyPost Try.prog Try.f67 _ Exit.ret _ (((((((((W5.setCell ⟨w.heap.size + 1, 0, none⟩ (.slice (some ⟨r, 0, none⟩) 64 xa)).setCell ⟨w.heap.size + 1, 1, none⟩ (.slice (some ⟨p, 0, none⟩) 64 xr)).setCell ⟨w.heap.size + 1, 2, none⟩ (.slice (some ⟨q, 0, none⟩) 64 xl)).setCell ⟨w.heap.size + 1, 3, none⟩ (.int .i64 (s.txg + 1))).setCell ⟨w.heap.size + 1, 4, none⟩ (.slice (some ⟨wr.heap.size, 0, none⟩) 0 0)).setCell ⟨w.heap.size + 1, 5, none⟩ (.int .i64 s.keep)).setCell ⟨w.heap.size + 1, 6, none⟩ (.slice xD s.dead.length xd)).setCell ⟨w.heap.size + 1, 7, none⟩ (.bool s.same)))
      generalize ((((((((W5.setCell ⟨w.heap.size + 1, 0, none⟩ (.slice (some ⟨r, 0, none⟩) 64 xa)).setCell ⟨w.heap.size + 1, 1, none⟩ (.slice (some ⟨p, 0, none⟩) 64 xr)).setCell ⟨w.heap.size + 1, 2, none⟩ (.slice (some ⟨q, 0, none⟩) 64 xl)).setCell ⟨w.heap.size + 1, 3, none⟩ (.int .i64 (s.txg + 1))).setCell ⟨w.heap.size + 1, 4, none⟩ (.slice (some ⟨wr.heap.size, 0, none⟩) 0 0)).setCell ⟨w.heap.size + 1, 5, none⟩ (.int .i64 s.keep)).setCell ⟨w.heap.size + 1, 6, none⟩ (.slice xD s.dead.length xd)).setCell ⟨w.heap.size + 1, 7, none⟩ (.bool s.same)) = WF at OG QB BE ⊢
      clear y0 y1 y2 y3 y4 y5 y6 y7 z0 z1 z2 z3 z4 z5 z6 z7 f0 f1 f2 f3 f4 f5 f6 f7 a5 c5 O5 B5 n5
      obtain ⟨q0, q1, q2, q3, q4, q5, q6, q7⟩ := QB.cells
      have OG : Own WF base WF.heap.size (rows5 { ((⟨some ⟨r, 0, none⟩, xa, some ⟨p, 0, none⟩, xr, some ⟨q, 0, none⟩, xl, xG, xg, xD, xd⟩ : SA) : SA) with G := some ⟨wr.heap.size, 0, none⟩, g := 0 } { t with gone := [], txg := t.txg + 1 }) := OG
      rw [hE] at OG
      exact bodyPost_ret (v := .agg #[.slice (some ⟨r, 0, none⟩) 64 xa, .slice (some ⟨p, 0, none⟩) 64 xr, .slice (some ⟨q, 0, none⟩) 64 xl, .int .i64 (s.txg + 1), .slice (some ⟨wr.heap.size, 0, none⟩) 0 0, .int .i64 s.keep, .slice xD s.dead.length xd, .bool s.same]) (by simp [results, Try.f67, go_sem, q0, q1, q2, q3, q4, q5, q6, q7]) rfl ⟨_, by rw [hr4.1, hr4.2.1, hr4.2.2]; rfl, OG, BE⟩
end Go.Proofs.Ytmnamclndpfjnaa

namespace Go.Proofs.Ytmnamclndpfjnaa
open Go.RowKit

theorem nextS_yes {s : St} (h : StOk s ∧ s.txg < 900) : nextS s = nextSt s := if_pos h
theorem nextS_no {s : St} (h : ¬ (StOk s ∧ s.txg < 900)) : nextS s = noSt := if_neg h
theorem nextB_yes {s : St} (h : StOk s ∧ s.txg < 900) : nextB s = true := decide_eq_true h
theorem nextB_no {s : St} (h : ¬ (StOk s ∧ s.txg < 900)) : nextB s = false := decide_eq_false h
/-- A copy's rows that have cells lie at the beginning of a block. -/
theorem five_addr {w : World} {base top : Nat} {x : SA} {s : St} (h : Own w base top (rows5 x s)) (h1 : s.rows.length = 64) (h2 : s.sp.refs.length = 64) (h3 : s.sp.last.length = 64) : ∃ r p q xa xr xl xG xg xD xd, x = ⟨some ⟨r, 0, none⟩, xa, some ⟨p, 0, none⟩, xr, some ⟨q, 0, none⟩, xl, xG, xg, xD, xd⟩ := by
  obtain ⟨yA, xa, yR, xr, yL, xl, xG, xg, xD, xd⟩ := x
  obtain ⟨r, e1⟩ := own_addr (h.row 0 (by decide : 0 < 5)) (by show 0 < s.rows.length; omega)
  obtain ⟨p, e2⟩ := own_addr (h.row 1 (by decide : 1 < 5)) (by show 0 < s.sp.refs.length; omega)
  obtain ⟨q, e3⟩ := own_addr (h.row 2 (by decide : 2 < 5)) (by show 0 < s.sp.last.length; omega)
  dsimp only at e1 e2 e3
  exact ⟨r, p, q, xa, xr, xl, xG, xg, xD, xd, by rw [e1, e2, e3]⟩
theorem l7next_any (y : SA) (s : St) (w : World) (base top : Nat) (hok : StOk s) (hgl : s.gone.length ≤ 1048576) (htop : top ≤ w.heap.size) (hO : Own w base top (rows5 y s)) :
    Calls Try.prog 67 #[(.agg #[.slice y.A s.rows.length y.a, .slice y.R s.sp.refs.length y.r, .slice y.L s.sp.last.length y.l, .int .i64 s.txg, .slice y.G s.gone.length y.g, .int .i64 s.keep, .slice y.D s.dead.length y.d, .bool s.same])] w (NxPost (nextSt s) base w) := by
  obtain ⟨r, p, q, xa, xr, xl, xG, xg, xD, xd, rfl⟩ := five_addr hO hok.len hok.sp.1 hok.sp.2.1
  simp only [hok.len, hok.sp.1, hok.sp.2.1]
  exact spec_l7next p q r xa xr xl xg xd base top xG xD s w hok hgl htop hO

set_option maxRecDepth 100000 in
set_option maxHeartbeats 8000000 in
theorem spec_snext (x : SA) (s : St) (w : World) (hs : SBulk s) (hA : StAt w x s) : Calls Try.prog 28 #[(.agg #[.slice x.A s.rows.length x.a, .slice x.R s.sp.refs.length x.r, .slice x.L s.sp.last.length x.l, .int .i64 s.txg, .slice x.G s.gone.length x.g, .int .i64 s.keep, .slice x.D s.dead.length x.d, .bool s.same])] w (TPost2 (nextS s) (nextB s) w) := by
  have a := (B8.new w 28 (.slice x.A s.rows.length x.a) (.slice x.R s.sp.refs.length x.r) (.slice x.L s.sp.last.length x.l) (.int .i64 s.txg) (.slice x.G s.gone.length x.g) (.int .i64 s.keep) (.slice x.D s.dead.length x.d) (.bool s.same)).alloc (.cells #[.slice none 0 0, .slice none 0 0, .slice none 0 0, .int .i64 0, .slice none 0 0, .int .i64 0, .slice none 0 0, .bool false] 28)
  have c := B8.new (w.alloc (.cells #[.slice x.A s.rows.length x.a, .slice x.R s.sp.refs.length x.r, .slice x.L s.sp.last.length x.l, .int .i64 s.txg, .slice x.G s.gone.length x.g, .int .i64 s.keep, .slice x.D s.dead.length x.d, .bool s.same] 28)) 28 (.slice none 0 0) (.slice none 0 0) (.slice none 0 0) (.int .i64 0) (.slice none 0 0) (.int .i64 0) (.slice none 0 0) (.bool false)
  rw [World.size_alloc] at c
  have BB := bel_new (bel_new (Below.refl w.heap.size w) (.cells #[.slice x.A s.rows.length x.a, .slice x.R s.sp.refs.length x.r, .slice x.L s.sp.last.length x.l, .int .i64 s.txg, .slice x.G s.gone.length x.g, .int .i64 s.keep, .slice x.D s.dead.length x.d, .bool s.same] 28)) (.cells #[.slice none 0 0, .slice none 0 0, .slice none 0 0, .int .i64 0, .slice none 0 0, .int .i64 0, .slice none 0 0, .bool false] 28)
  have sz : ((w.alloc (.cells #[.slice x.A s.rows.length x.a, .slice x.R s.sp.refs.length x.r, .slice x.L s.sp.last.length x.l, .int .i64 s.txg, .slice x.G s.gone.length x.g, .int .i64 s.keep, .slice x.D s.dead.length x.d, .bool s.same] 28)).alloc (.cells #[.slice none 0 0, .slice none 0 0, .slice none 0 0, .int .i64 0, .slice none 0 0, .int .i64 0, .slice none 0 0, .bool false] 28)).heap.size = w.heap.size + 1 + 1 := by rw [World.size_alloc, World.size_alloc]
  have hO := spec_sok x s _ hs (hA.below BB)
  by_cases hok : StOk s
  · rw [okSt_yes hok] at hO
    have ht := hok.txg
    by_cases h9 : s.txg < 900
    · rw [nextS_yes ⟨hok, h9⟩, nextB_yes ⟨hok, h9⟩]
      have hC := fun W (hW : Below w.heap.size w W) => spec_l7copy x s W hs hok.sp.1 hok.sp.2.1 (hA.below hW)
      have hN := fun y W b t h1 h2 => l7next_any y s W b t hok hs.gone h1 h2
      have hng : ¬ (900 : Int) ≤ s.txg := by omega
      obtain ⟨ns, hns⟩ : ∃ n, n = nextSt s := ⟨_, rfl⟩
      simp only [← hns] at hN ⊢
      clear hs hA hok hns
      go_enter Try.func28, Try.ntmps28
      go_upto_region 1 with fail
      obtain ⟨W0, hW0⟩ : ∃ W, W = (w.alloc (.cells #[.slice x.A s.rows.length x.a, .slice x.R s.sp.refs.length x.r, .slice x.L s.sp.last.length x.l, .int .i64 s.txg, .slice x.G s.gone.length x.g, .int .i64 s.keep, .slice x.D s.dead.length x.d, .bool s.same] 28)).alloc (.cells #[.slice none 0 0, .slice none 0 0, .slice none 0 0, .int .i64 0, .slice none 0 0, .int .i64 0, .slice none 0 0, .bool false] 28) := ⟨_, rfl⟩
      rw [← hW0] at a c BB sz hO ⊢
      clear hW0
      replace sz := Nat.le_of_eq sz.symm
      obtain ⟨x0, x1, x2, x3, x4, x5, x6, x7⟩ := a.cells
      go_wp2_with (go_at_call 17; refine hO.mono ?_; rintro r w1 ⟨rfl, hb1⟩; refine Hid.out ?_)
      refine Lib.hid ?_
      clear x0 x1 x2 x3 x4 x5 x6 x7 hO
      have a := a.below hb1
      have c := c.below hb1
      have BB := bel_then BB hb1
      have s1 := Nat.le_trans sz hb1.size
      obtain ⟨x0, x1, x2, x3, x4, x5, x6, x7⟩ := a.cells
      have L := hC w1 BB
      unfold TPost at L
      go_wp2_with (go_at_call 61; refine L.mono ?_; rintro rr w2 ⟨y, rfl, O, hb2⟩; refine Hid.out ?_)
      refine Lib.hid ?_
      clear hC L hb1
      have c := c.below hb2
      have BB := bel_then BB hb2
      have s2 := Nat.le_trans s1 hb2.size
      have L := hN y w2 w1.heap.size w2.heap.size (Nat.le_refl _) O
      unfold NxPost at L
      go_wp2_with (go_at_call 67; refine L.mono ?_; rintro rr w3 ⟨y3, rfl, O3, hb3⟩; refine Hid.out ?_)
      refine Lib.hid ?_
      have c := c.belowB hb3 (by omega)
      have BB := BB.trans (hb3.mono (by omega))
      have s3 := Nat.le_trans s2 hb3.size
      clear hN L O hb2 hb3 a x0 x1 x2 x3 x4 x5 x6 x7
      have FN := Fin8.mk2 (x := y3) (s := ns) (H := w.heap.size + 1) c (by omega) (by omega) O3 BB
      have HF := Lib.hid FN
      obtain ⟨z0, z1, z2, z3, z4, z5, z6, z7⟩ := c.cells
      obtain ⟨f0, f1, f2, f3, f4, f5, f6, f7⟩ := c.fro
      clear FN
      go_wp2_with fail
      change bodyPost Try.prog Try.f28 _ Exit.ret _ (putS w3 (w.heap.size + 1) y3 ns)
      have HF := HF.out
      generalize putS _ _ _ _ = WF at HF ⊢
      clear z0 z1 z2 z3 z4 z5 z6 z7 f0 f1 f2 f3 f4 f5 f6 f7
      obtain ⟨⟨q0, q1, q2, q3, q4, q5, q6, q7⟩, ho, hb⟩ := (⟨HF.box.cells, HF.own, HF.bel⟩ : _ ∧ _ ∧ _)
      exact bodyPost_ret (v := .tuple #[.agg #[.slice y3.A ns.rows.length y3.a, .slice y3.R ns.sp.refs.length y3.r, .slice y3.L ns.sp.last.length y3.l, .int .i64 ns.txg, .slice y3.G ns.gone.length y3.g, .int .i64 ns.keep, .slice y3.D ns.dead.length y3.d, .bool ns.same], .bool true]) (by simp [results, Try.f28, go_sem, q0, q1, q2, q3, q4, q5, q6, q7]) rfl ⟨y3, rfl, ho, hb⟩
    · rw [nextS_no (fun h => h9 h.2), nextB_no (fun h => h9 h.2)]
      have hng : (900 : Int) ≤ s.txg := by omega
      clear hs hA hok h9
      go_enter Try.func28, Try.ntmps28
      go_upto_region 1 with fail
      obtain ⟨W0, hW0⟩ : ∃ W, W = (w.alloc (.cells #[.slice x.A s.rows.length x.a, .slice x.R s.sp.refs.length x.r, .slice x.L s.sp.last.length x.l, .int .i64 s.txg, .slice x.G s.gone.length x.g, .int .i64 s.keep, .slice x.D s.dead.length x.d, .bool s.same] 28)).alloc (.cells #[.slice none 0 0, .slice none 0 0, .slice none 0 0, .int .i64 0, .slice none 0 0, .int .i64 0, .slice none 0 0, .bool false] 28) := ⟨_, rfl⟩
      rw [← hW0] at a c BB sz hO ⊢
      clear hW0
      replace sz := Nat.le_of_eq sz.symm
      obtain ⟨x0, x1, x2, x3, x4, x5, x6, x7⟩ := a.cells
      go_wp2_with (go_at_call 17; refine hO.mono ?_; rintro r w1 ⟨rfl, hb1⟩; refine Hid.out ?_)
      refine Lib.hid ?_
      clear x0 x1 x2 x3 x4 x5 x6 x7 hO
      have a := a.below hb1
      have c := c.below hb1
      have BB := bel_then BB hb1
      have s1 := Nat.le_trans sz hb1.size
      obtain ⟨x0, x1, x2, x3, x4, x5, x6, x7⟩ := a.cells
      obtain ⟨z0, z1, z2, z3, z4, z5, z6, z7⟩ := c.cells
      obtain ⟨f0, f1, f2, f3, f4, f5, f6, f7⟩ := c.fro
      go_wp2_with fail
      obtain ⟨q0, q1, q2, q3, q4, q5, q6, q7⟩ := (set8_box (u0 := .slice none 0 0) (u1 := .slice none 0 0) (u2 := .slice none 0 0) (u3 := .int .i64 0) (u4 := .slice none 0 0) (u5 := .int .i64 0) (u6 := .slice none 0 0) (u7 := .bool false) c).cells
      exact bodyPost_ret (v := .tuple #[.agg #[.slice none 0 0, .slice none 0 0, .slice none 0 0, .int .i64 0, .slice none 0 0, .int .i64 0, .slice none 0 0, .bool false], .bool false]) (by simp [results, Try.f28, go_sem, q0, q1, q2, q3, q4, q5, q6, q7]) rfl ⟨SA.none, rfl, own_none _ _ _, set8_bel (u0 := .slice none 0 0) (u1 := .slice none 0 0) (u2 := .slice none 0 0) (u3 := .int .i64 0) (u4 := .slice none 0 0) (u5 := .int .i64 0) (u6 := .slice none 0 0) (u7 := .bool false) BB (by omega)⟩
  · rw [okSt_no hok] at hO
    rw [nextS_no (fun h => hok h.1), nextB_no (fun h => hok h.1)]
    clear hs hA hok
    go_enter Try.func28, Try.ntmps28
    go_upto_region 1 with fail
    obtain ⟨W0, hW0⟩ : ∃ W, W = (w.alloc (.cells #[.slice x.A s.rows.length x.a, .slice x.R s.sp.refs.length x.r, .slice x.L s.sp.last.length x.l, .int .i64 s.txg, .slice x.G s.gone.length x.g, .int .i64 s.keep, .slice x.D s.dead.length x.d, .bool s.same] 28)).alloc (.cells #[.slice none 0 0, .slice none 0 0, .slice none 0 0, .int .i64 0, .slice none 0 0, .int .i64 0, .slice none 0 0, .bool false] 28) := ⟨_, rfl⟩
    rw [← hW0] at a c BB sz hO ⊢
    clear hW0
    replace sz := Nat.le_of_eq sz.symm
    obtain ⟨x0, x1, x2, x3, x4, x5, x6, x7⟩ := a.cells
    go_wp2_with (go_at_call 17; refine hO.mono ?_; rintro r w1 ⟨rfl, hb1⟩; refine Hid.out ?_)
    refine Lib.hid ?_
    clear x0 x1 x2 x3 x4 x5 x6 x7 hO
    have a := a.below hb1
    have c := c.below hb1
    have BB := bel_then BB hb1
    have s1 := Nat.le_trans sz hb1.size
    obtain ⟨x0, x1, x2, x3, x4, x5, x6, x7⟩ := a.cells
    obtain ⟨z0, z1, z2, z3, z4, z5, z6, z7⟩ := c.cells
    obtain ⟨f0, f1, f2, f3, f4, f5, f6, f7⟩ := c.fro
    go_wp2_with fail
    obtain ⟨q0, q1, q2, q3, q4, q5, q6, q7⟩ := (set8_box (u0 := .slice none 0 0) (u1 := .slice none 0 0) (u2 := .slice none 0 0) (u3 := .int .i64 0) (u4 := .slice none 0 0) (u5 := .int .i64 0) (u6 := .slice none 0 0) (u7 := .bool false) c).cells
    exact bodyPost_ret (v := .tuple #[.agg #[.slice none 0 0, .slice none 0 0, .slice none 0 0, .int .i64 0, .slice none 0 0, .int .i64 0, .slice none 0 0, .bool false], .bool false]) (by simp [results, Try.f28, go_sem, q0, q1, q2, q3, q4, q5, q6, q7]) rfl ⟨SA.none, rfl, own_none _ _ _, set8_bel (u0 := .slice none 0 0) (u1 := .slice none 0 0) (u2 := .slice none 0 0) (u3 := .int .i64 0) (u4 := .slice none 0 0) (u5 := .int .i64 0) (u6 := .slice none 0 0) (u7 := .bool false) BB (by omega)⟩
end Go.Proofs.Ytmnamclndpfjnaa
