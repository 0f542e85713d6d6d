/-
  A copy of pointers with one more behind them.
  A pointer is given up, as the program does it in a valid store.
  A pointer is given up, as the program does it.
-/
import Derived.Test.YtmnamclndpfjnaaFre
import Derived.Deep.RegionLawGrows
import Derived.Test.YtmnamclndpfjnaaSfr
import Derived.Test.YtmnamclndpfjnaaImB

namespace Go.Proofs.Ytmnamclndpfjnaa
open Go.RowKit

theorem own_cap {w : World} {base n m c : Nat} {A : Option Addr} {t : TypeId} {sz : Nat} {xs : List Value} (h : w.ownsRow base t sz (.slice A n c) m xs) : n ≤ c ∧ (A = none → n = 0 ∧ c = 0) := by
  rcases h.2 with ⟨e, _⟩ | ⟨g, cap, cur, e, _, _, hnc, _⟩
  · injection e with e1 e2 e3
    subst e1 e2 e3
    exact ⟨Nat.le_refl _, fun _ => ⟨rfl, rfl⟩⟩
  · injection e with e1 e2 e3
    subst e1 e2 e3
    exact ⟨hnc, fun e => by cases e⟩

theorem Q5.news {W : World} {g : Nat} {a b c d e : Int} (h : Q5 W g a b c d e) : ∀ j u, (P5.cells ⟨a, b, c, d, e⟩)[j]? = some u → W.cell? ((⟨g, 0, none⟩ : Addr).add j) = some u := fun j u hu => by
  obtain ⟨g', o, e1, _, hc⟩ := h.lies (Nat.succ_pos _)
  rw [Addr.add_mid]
  injection e1 with e1
  injection e1 with e1 e2
  subst e1 e2
  exact hc j u hu
theorem P5.one (p : P5) : ∀ u ∈ P5.cells p, u.oneCell' = true := by
  intro u hu
  simp only [P5.cells, List.mem_cons, List.not_mem_nil, or_false] at hu
  rcases hu with rfl | rfl | rfl | rfl | rfl <;> rfl

set_option maxRecDepth 100000 in
set_option maxHeartbeats 2000000 in
theorem impl_behind (A : Option Addr) (k : Nat) (L : List P5) (a b cs d e : Int) (w : World) (hL : L.length ≤ 1048576) (hk : L.length ≤ k) (h0 : A = none → L.length = 0 ∧ k = 0) (hA : Lies w A (flat L)) :
    Calls Try.prog 102 #[.slice A L.length k, .agg #[.int .i64 a, .int .i64 b, .int .i64 cs, .int .i64 d, .int .i64 e]] w (ClonePost 45 5 (L.length + 1) (flat (L ++ [(⟨a, b, cs, d, e⟩ : P5)])) w) := by
  obtain ⟨i45, hi45, hz450, hz451, hz452⟩ := info_parts Try.info45
  have p0 := Q5.new w a b cs d e
  have hki : (L.length : Int) ≤ (k : Int) := by omega
  have p1 : Q5 ((w.alloc (.cells #[.int .i64 a, .int .i64 b, .int .i64 cs, .int .i64 d, .int .i64 e] 45)).alloc (.cells #[.int .i64 a, .int .i64 b, .int .i64 cs, .int .i64 d, .int .i64 e] 45)).drew (w.heap.size + 1) a b cs d e := by
    have := Q5.new (w.alloc (.cells #[.int .i64 a, .int .i64 b, .int .i64 cs, .int .i64 d, .int .i64 e] 45)) a b cs d e
    rw [World.size_alloc] at this
    exact this
  have hnews := p1.news
  have hbel : Below w.heap.size w ((w.alloc (.cells #[.int .i64 a, .int .i64 b, .int .i64 cs, .int .i64 d, .int .i64 e] 45)).alloc (.cells #[.int .i64 a, .int .i64 b, .int .i64 cs, .int .i64 d, .int .i64 e] 45)).drew := (bel_new (bel_new (Below.refl _ _) _) _).drew
  have hold : ∀ q : Addr, A = some q → ∀ j u, (flat L)[j]? = some u → ((w.alloc (.cells #[.int .i64 a, .int .i64 b, .int .i64 cs, .int .i64 d, .int .i64 e] 45)).alloc (.cells #[.int .i64 a, .int .i64 b, .int .i64 cs, .int .i64 d, .int .i64 e] 45)).drew.cell? (q.add j) = some u := by
    intro q hq j u hu
    obtain ⟨b', off, e1, hlt, hc⟩ := (hA.below hbel) (by have := (List.getElem?_eq_some_iff.1 hu).1; omega)
    rw [hq] at e1
    injection e1 with e1
    subst e1
    rw [Addr.add_mid]
    exact hc j u hu
  have hsz : w.heap.size ≤ ((w.alloc (.cells #[.int .i64 a, .int .i64 b, .int .i64 cs, .int .i64 d, .int .i64 e] 45)).alloc (.cells #[.int .i64 a, .int .i64 b, .int .i64 cs, .int .i64 d, .int .i64 e] 45)).drew.heap.size := hbel.size
  obtain ⟨v0, v1, v2, v3, v4⟩ := p0.cells
  clear hA p1
  go_enter Try.func102, Try.ntmps102
  go_upto_region 1 with fail
  go_region_law (refine step_append_grows rfl (.tmp 10) (.tmp 12) 26 rfl 45 i45 (.agg #[.int .i64 0, .int .i64 0, .int .i64 0, .int .i64 0, .int .i64 0]) 5 40 Try.underlying26 hi45 hz450 hz451 hz452 rfl (by decide) A L.length L.length (flat L) (by first | rfl | (simp [Act.eval, Act.put]; done)) (fun h => ⟨(h0 h).1, (h0 h).1⟩) (by rw [flat_len]; omega) (fun q hq => hold q hq) ⟨w.heap.size + 1, 0, none⟩ 1 1 (P5.cells (⟨a, b, cs, d, e⟩ : P5)) (by first | rfl | (simp [Act.eval, Act.put]; done)) rfl hnews (P5.one _) (by omega) (by unfold maxLen; omega) (by omega) ?_
                 intro v' w1 hown hgrow
                 obtain ⟨A', k', rfl, _⟩ := own_lies hown)
  all_goals go_wp2_with fail
  all_goals go_ret
  all_goals exact ⟨A', k', rfl, own_base (by rw [flat_snoc]; exact hown) hsz, hbel.grown hgrow hsz (fun k hk => by cases hk)⟩
end Go.Proofs.Ytmnamclndpfjnaa

namespace Go.Proofs.Ytmnamclndpfjnaa
open Go.RowKit

/-- Of the pointers that are given up the slices have room for what they have. -/
def CapS (x : SA) (s : St) : Prop := (s.gone.length ≤ x.g ∧ (x.G = none → s.gone.length = 0 ∧ x.g = 0)) ∧ s.dead.length ≤ x.d ∧ (x.D = none → s.dead.length = 0 ∧ x.d = 0)
theorem Own.cap {w : World} {base top : Nat} {x : SA} {s : St} (h : Own w base top (rows5 x s)) : CapS x s := ⟨own_cap (h.row 3 (by decide : 3 < 5)), own_cap (h.row 4 (by decide : 4 < 5))⟩
set_option maxRecDepth 100000 in
set_option maxHeartbeats 8000000 in
theorem impl_freed (x : SA) (s : St) (a b cs d e : Int) (w : World) (hs : SBulk s) (hok : StOk s) (hp : isOk a b cs d e = true) (hA : StAt w x s) (hcap : CapS x s) :
    Calls Try.prog 66 #[(.agg #[.slice x.A s.rows.length x.a, .slice x.R s.sp.refs.length x.r, .slice x.L s.sp.last.length x.l, .int .i64 s.txg, .slice x.G s.gone.length x.g, .int .i64 s.keep, .slice x.D s.dead.length x.d, .bool s.same]), .agg #[.int .i64 a, .int .i64 b, .int .i64 cs, .int .i64 d, .int .i64 e]] w (TPost2 (freeS s (⟨a, b, cs, d, e⟩ : P5)) (freeF s (⟨a, b, cs, d, e⟩ : P5)) w) := by
  have a0 := ((B8.new w 28 (.slice x.A s.rows.length x.a) (.slice x.R s.sp.refs.length x.r) (.slice x.L s.sp.last.length x.l) (.int .i64 s.txg) (.slice x.G s.gone.length x.g) (.int .i64 s.keep) (.slice x.D s.dead.length x.d) (.bool s.same)).alloc (.cells #[.int .i64 a, .int .i64 b, .int .i64 cs, .int .i64 d, .int .i64 e] 45)).alloc (.cells #[.slice none 0 0, .slice none 0 0, .slice none 0 0, .int .i64 0, .slice none 0 0, .int .i64 0, .slice none 0 0, .bool false] 28)
  have p0 := (Q5.new (w.alloc (.cells #[.slice x.A s.rows.length x.a, .slice x.R s.sp.refs.length x.r, .slice x.L s.sp.last.length x.l, .int .i64 s.txg, .slice x.G s.gone.length x.g, .int .i64 s.keep, .slice x.D s.dead.length x.d, .bool s.same] 28)) a b cs d e).alloc (.cells #[.slice none 0 0, .slice none 0 0, .slice none 0 0, .int .i64 0, .slice none 0 0, .int .i64 0, .slice none 0 0, .bool false] 28)
  have c0 := B8.new ((w.alloc (.cells #[.slice x.A s.rows.length x.a, .slice x.R s.sp.refs.length x.r, .slice x.L s.sp.last.length x.l, .int .i64 s.txg, .slice x.G s.gone.length x.g, .int .i64 s.keep, .slice x.D s.dead.length x.d, .bool s.same] 28)).alloc (.cells #[.int .i64 a, .int .i64 b, .int .i64 cs, .int .i64 d, .int .i64 e] 45)) 28 (.slice none 0 0) (.slice none 0 0) (.slice none 0 0) (.int .i64 0) (.slice none 0 0) (.int .i64 0) (.slice none 0 0) (.bool false)
  rw [World.size_alloc] at p0
  rw [World.size_alloc, World.size_alloc] at c0
  have B0 := bel_new (bel_new (bel_new (Below.refl w.heap.size w) (.cells #[.slice x.A s.rows.length x.a, .slice x.R s.sp.refs.length x.r, .slice x.L s.sp.last.length x.l, .int .i64 s.txg, .slice x.G s.gone.length x.g, .int .i64 s.keep, .slice x.D s.dead.length x.d, .bool s.same] 28)) (.cells #[.int .i64 a, .int .i64 b, .int .i64 cs, .int .i64 d, .int .i64 e] 45)) (.cells #[.slice none 0 0, .slice none 0 0, .slice none 0 0, .int .i64 0, .slice none 0 0, .int .i64 0, .slice none 0 0, .bool false] 28)
  have sz : (((w.alloc (.cells #[.slice x.A s.rows.length x.a, .slice x.R s.sp.refs.length x.r, .slice x.L s.sp.last.length x.l, .int .i64 s.txg, .slice x.G s.gone.length x.g, .int .i64 s.keep, .slice x.D s.dead.length x.d, .bool s.same] 28)).alloc (.cells #[.int .i64 a, .int .i64 b, .int .i64 cs, .int .i64 d, .int .i64 e] 45)).alloc (.cells #[.slice none 0 0, .slice none 0 0, .slice none 0 0, .int .i64 0, .slice none 0 0, .int .i64 0, .slice none 0 0, .bool false] 28)).heap.size = w.heap.size + 1 + 1 + 1 := by rw [World.size_alloc, World.size_alloc, World.size_alloc]
  have hH : ∀ W, Calls Try.prog 90 #[.agg #[.int .i64 a, .int .i64 b, .int .i64 cs, .int .i64 d, .int .i64 e]] W fun r w' => r = .returned (.bool (isHole a b cs d e)) ∧ Below W.heap.size W w' := fun W => (m_hole a b cs d e W).mono fun r w' ⟨h1, h2⟩ => ⟨h1, by subst h2; exact bel_new (Below.refl _ _) _⟩
  have hcp := fun W (hW : Below w.heap.size w W) => impl_copied x s W hs.rows hs.refs hs.last hs.gone hs.dead (hA.below hW)
  unfold TPost at hcp
  have htx := hok.txg
  have hkp := hok.keep
  have hp' : P5.ok (⟨a, b, cs, d, e⟩ : P5) = true := hp
  cases hh : isHole a b cs d e with
  | true =>
    have hb0 : b = 0 := (P5.hole_zero (p := (⟨a, b, cs, d, e⟩ : P5)) hh).2
    have hn : freeOk s (⟨a, b, cs, d, e⟩ : P5) := ⟨hok, hp', by simp only; omega, .inl hh⟩
    rw [freeS_yes hn, freeF_yes hn, freeSt_hole (show P5.hole (⟨a, b, cs, d, e⟩ : P5) = true from hh)]
    simp only [hh] at hH
    clear hs hA hok hn hp hp' hh hcap hb0
    go_enter Try.func66, Try.ntmps66
    go_upto_region 1 with fail
    obtain ⟨W0, hW0⟩ : ∃ W, W = (((w.alloc (.cells #[.slice x.A s.rows.length x.a, .slice x.R s.sp.refs.length x.r, .slice x.L s.sp.last.length x.l, .int .i64 s.txg, .slice x.G s.gone.length x.g, .int .i64 s.keep, .slice x.D s.dead.length x.d, .bool s.same] 28)).alloc (.cells #[.int .i64 a, .int .i64 b, .int .i64 cs, .int .i64 d, .int .i64 e] 45)).alloc (.cells #[.slice none 0 0, .slice none 0 0, .slice none 0 0, .int .i64 0, .slice none 0 0, .int .i64 0, .slice none 0 0, .bool false] 28)) := ⟨_, rfl⟩
    rw [← hW0] at a0 p0 c0 B0 sz ⊢
    clear hW0
    replace sz := Nat.le_of_eq sz.symm
    obtain ⟨x0, x1, x2, x3, x4, x5, x6, x7⟩ := a0.cells
    obtain ⟨v0, v1, v2, v3, v4⟩ := p0.cells
    go_wp2_with (go_at_call 90; refine (hH _).mono ?_; rintro r w1 ⟨rfl, hb1⟩; refine Hid.out ?_)
    refine Lib.hid ?_
    clear x0 x1 x2 x3 x4 x5 x6 x7 v0 v1 v2 v3 v4
    have a1 := a0.below hb1
    have p1 := p0.below hb1
    have c1 := c0.below hb1
    have B1 := bel_then B0 hb1
    have s1 := Nat.le_trans sz hb1.size
    clear a0 p0 c0 B0 hb1
    have L := hcp _ B1
    obtain ⟨x0, x1, x2, x3, x4, x5, x6, x7⟩ := a1.cells
    obtain ⟨v0, v1, v2, v3, v4⟩ := p1.cells
    go_wp2_with (go_at_call 98; refine L.mono ?_; rintro rr w2 ⟨y, rfl, O, hb2⟩; refine Hid.out ?_)
    refine Lib.hid ?_
    have a2 := a1.below hb2
    have p2 := p1.below hb2
    have c2 := c1.below hb2
    have B2 := bel_then B1 hb2
    have s2 := Nat.le_trans s1 hb2.size
    have s12 := hb2.size
    clear a1 p1 c1 B1 hb2 L x0 x1 x2 x3 x4 x5 x6 x7 v0 v1 v2 v3 v4
    have FN := Fin8.mk2 (x := y) (s := s) (H := w.heap.size + 1 + 1) c2 (by omega) (by omega) O B2
    have HF := Lib.hid FN
    obtain ⟨z0, z1, z2, z3, z4, z5, z6, z7⟩ := c2.cells
    obtain ⟨f0, f1, f2, f3, f4, f5, f6, f7⟩ := c2.fro
    clear FN
    go_wp2_with fail
    change bodyPost Try.prog Try.f66 _ Exit.ret _ (putS w2 (w.heap.size + 1 + 1) y s)
    have HF := HF.out
    generalize putS _ _ _ _ = WF at HF ⊢
    clear z0 z1 z2 z3 z4 z5 z6 z7 f0 f1 f2 f3 f4 f5 f6 f7
    obtain ⟨⟨q0, q1, q2, q3, q4, q5, q6, q7⟩, ho, hb⟩ := (⟨HF.box.cells, HF.own, HF.bel⟩ : _ ∧ _ ∧ _)
    exact bodyPost_ret (v := .tuple #[.agg #[.slice y.A s.rows.length y.a, .slice y.R s.sp.refs.length y.r, .slice y.L s.sp.last.length y.l, .int .i64 s.txg, .slice y.G s.gone.length y.g, .int .i64 s.keep, .slice y.D s.dead.length y.d, .bool s.same], .bool true]) (by simp [results, Try.f66, go_sem, q0, q1, q2, q3, q4, q5, q6, q7]) rfl ⟨y, rfl, ho, hb⟩
  | false =>
    simp only [hh] at hH
    have hpr := P5.ok_bounds hp' hh
    simp only at hpr
    obtain ⟨n, hna⟩ : ∃ n : Nat, a = (n : Int) := ⟨a.toNat, by omega⟩
    have hn64 : n < s.sp.refs.length := by rw [hok.sp.1]; omega
    have hn6 : n < 64 := by omega
    have hg : s.sp.refs.getD n 0 = s.sp.refs[n] := by rw [List.getD_eq_getElem?_getD, List.getElem?_eq_getElem hn64, Option.getD_some]
    have hR := fun W (hW : Below w.heap.size w W) => (hA.sp.1.below hW).int n hn64
    have hnL : (n : Int) < (s.sp.refs.length : Int) := by omega
    obtain ⟨u, hu⟩ : ∃ u, u = s.sp.refs[n] := ⟨_, rfl⟩
    simp only [← hu] at hg hR
    subst hna
    by_cases hu0 : u = 0
    · have hn : ¬ freeOk s (⟨(n : Int), b, cs, d, e⟩ : P5) := fun h => by
        rcases h.2.2.2 with h | h
        · rw [show P5.hole (⟨(n : Int), b, cs, d, e⟩ : P5) = isHole n b cs d e from rfl, hh] at h; cases h
        · exact h (by simp only [Int.toNat_natCast]; rw [hg, hu0])
      rw [freeS_no hn, freeF_no hn]
      subst hu0
      clear hs hA hok hn hp hp' hg hu hcp hh hpr hcap
      go_enter Try.func66, Try.ntmps66
      go_upto_region 1 with fail
      obtain ⟨W0, hW0⟩ : ∃ W, W = (((w.alloc (.cells #[.slice x.A s.rows.length x.a, .slice x.R s.sp.refs.length x.r, .slice x.L s.sp.last.length x.l, .int .i64 s.txg, .slice x.G s.gone.length x.g, .int .i64 s.keep, .slice x.D s.dead.length x.d, .bool s.same] 28)).alloc (.cells #[.int .i64 (n : Int), .int .i64 b, .int .i64 cs, .int .i64 d, .int .i64 e] 45)).alloc (.cells #[.slice none 0 0, .slice none 0 0, .slice none 0 0, .int .i64 0, .slice none 0 0, .int .i64 0, .slice none 0 0, .bool false] 28)) := ⟨_, rfl⟩
      rw [← hW0] at a0 p0 c0 B0 sz ⊢
      clear hW0
      replace sz := Nat.le_of_eq sz.symm
      obtain ⟨x0, x1, x2, x3, x4, x5, x6, x7⟩ := a0.cells
      obtain ⟨v0, v1, v2, v3, v4⟩ := p0.cells
      go_wp2_with (go_at_call 90; refine (hH _).mono ?_; rintro r w1 ⟨rfl, hb1⟩; refine Hid.out ?_)
      refine Lib.hid ?_
      clear x0 x1 x2 x3 x4 x5 x6 x7 v0 v1 v2 v3 v4
      have a1 := a0.below hb1
      have p1 := p0.below hb1
      have c1 := c0.below hb1
      have B1 := bel_then B0 hb1
      have s1 := Nat.le_trans sz hb1.size
      clear a0 p0 c0 B0 hb1
      obtain ⟨bR, oR, hxR, hlR, hcR⟩ := hR w1 B1
      obtain ⟨xA, xa, xR, xr, xL, xl, xG, xg, xD, xd⟩ := x
      dsimp only at *
      subst hxR
      obtain ⟨x0, x1, x2, x3, x4, x5, x6, x7⟩ := a1.cells
      obtain ⟨v0, v1, v2, v3, v4⟩ := p1.cells
      obtain ⟨z0, z1, z2, z3, z4, z5, z6, z7⟩ := c1.cells
      obtain ⟨f0, f1, f2, f3, f4, f5, f6, f7⟩ := c1.fro
      go_wp2_with fail
      obtain ⟨q0, q1, q2, q3, q4, q5, q6, q7⟩ := (set8_box (u0 := .slice none 0 0) (u1 := .slice none 0 0) (u2 := .slice none 0 0) (u3 := .int .i64 0) (u4 := .slice none 0 0) (u5 := .int .i64 0) (u6 := .slice none 0 0) (u7 := .bool false) c1).cells
      exact bodyPost_ret (v := .tuple #[.agg #[.slice none 0 0, .slice none 0 0, .slice none 0 0, .int .i64 0, .slice none 0 0, .int .i64 0, .slice none 0 0, .bool false], .bool false]) (by simp [results, Try.f66, go_sem, q0, q1, q2, q3, q4, q5, q6, q7]) rfl ⟨SA.none, rfl, own_none _ _ _, set8_bel (u0 := .slice none 0 0) (u1 := .slice none 0 0) (u2 := .slice none 0 0) (u3 := .int .i64 0) (u4 := .slice none 0 0) (u5 := .int .i64 0) (u6 := .slice none 0 0) (u7 := .bool false) B1 (by omega)⟩
    have hu9 : (u == 0) = false := by simpa using hu0
    have hx2 := give_used hok hn6 (by rw [hg]; exact hu0)
    by_cases ht : s.txg < b
    · have hn : ¬ freeOk s (⟨(n : Int), b, cs, d, e⟩ : P5) := fun h => by have := h.2.2.1; simp only at this; omega
      rw [freeS_no hn, freeF_no hn]
      clear hs hA hok hn hp hp' hg hu hcp hh hpr hcap hx2
      go_enter Try.func66, Try.ntmps66
      go_upto_region 1 with fail
      obtain ⟨W0, hW0⟩ : ∃ W, W = (((w.alloc (.cells #[.slice x.A s.rows.length x.a, .slice x.R s.sp.refs.length x.r, .slice x.L s.sp.last.length x.l, .int .i64 s.txg, .slice x.G s.gone.length x.g, .int .i64 s.keep, .slice x.D s.dead.length x.d, .bool s.same] 28)).alloc (.cells #[.int .i64 (n : Int), .int .i64 b, .int .i64 cs, .int .i64 d, .int .i64 e] 45)).alloc (.cells #[.slice none 0 0, .slice none 0 0, .slice none 0 0, .int .i64 0, .slice none 0 0, .int .i64 0, .slice none 0 0, .bool false] 28)) := ⟨_, rfl⟩
      rw [← hW0] at a0 p0 c0 B0 sz ⊢
      clear hW0
      replace sz := Nat.le_of_eq sz.symm
      obtain ⟨x0, x1, x2, x3, x4, x5, x6, x7⟩ := a0.cells
      obtain ⟨v0, v1, v2, v3, v4⟩ := p0.cells
      go_wp2_with (go_at_call 90; refine (hH _).mono ?_; rintro r w1 ⟨rfl, hb1⟩; refine Hid.out ?_)
      refine Lib.hid ?_
      clear x0 x1 x2 x3 x4 x5 x6 x7 v0 v1 v2 v3 v4
      have a1 := a0.below hb1
      have p1 := p0.below hb1
      have c1 := c0.below hb1
      have B1 := bel_then B0 hb1
      have s1 := Nat.le_trans sz hb1.size
      clear a0 p0 c0 B0 hb1
      obtain ⟨bR, oR, hxR, hlR, hcR⟩ := hR w1 B1
      obtain ⟨xA, xa, xR, xr, xL, xl, xG, xg, xD, xd⟩ := x
      dsimp only at *
      subst hxR
      obtain ⟨x0, x1, x2, x3, x4, x5, x6, x7⟩ := a1.cells
      obtain ⟨v0, v1, v2, v3, v4⟩ := p1.cells
      obtain ⟨z0, z1, z2, z3, z4, z5, z6, z7⟩ := c1.cells
      obtain ⟨f0, f1, f2, f3, f4, f5, f6, f7⟩ := c1.fro
      go_wp2_with fail
      obtain ⟨q0, q1, q2, q3, q4, q5, q6, q7⟩ := (set8_box (u0 := .slice none 0 0) (u1 := .slice none 0 0) (u2 := .slice none 0 0) (u3 := .int .i64 0) (u4 := .slice none 0 0) (u5 := .int .i64 0) (u6 := .slice none 0 0) (u7 := .bool false) c1).cells
      exact bodyPost_ret (v := .tuple #[.agg #[.slice none 0 0, .slice none 0 0, .slice none 0 0, .int .i64 0, .slice none 0 0, .int .i64 0, .slice none 0 0, .bool false], .bool false]) (by simp [results, Try.f66, go_sem, q0, q1, q2, q3, q4, q5, q6, q7]) rfl ⟨SA.none, rfl, own_none _ _ _, set8_bel (u0 := .slice none 0 0) (u1 := .slice none 0 0) (u2 := .slice none 0 0) (u3 := .int .i64 0) (u4 := .slice none 0 0) (u5 := .int .i64 0) (u6 := .slice none 0 0) (u7 := .bool false) B1 (by omega)⟩
    have hn : freeOk s (⟨(n : Int), b, cs, d, e⟩ : P5) := ⟨hok, hp', by simp only; omega, .inr (by simp only [Int.toNat_natCast]; rw [hg]; exact hu0)⟩
    rw [freeS_yes hn, freeF_yes hn]
    have ht9 : ¬ s.txg < b := ht
    by_cases hbt : b = s.txg
    · rw [freeSt_drop (p := (⟨(n : Int), b, cs, d, e⟩ : P5)) hh (by simp only; omega) (by simp only; omega)]
      have hG := fun W (hW : Below w.heap.size w W) => impl_give x.R x.L x.r x.l s.sp (n : Int) W (WalkArith.wf_i64 (by omega)) hs.refs hs.last (hA.sp.below hW)
      rw [hx2.2.2] at hG
      have hl1 : (spOf (giveU (usOf s.sp) (n : Int))).refs.length = 64 := by rw [← drop_sp hok.sp hn6]; rw [drop_refs, hok.sp.1]
      have hl2 : (spOf (giveU (usOf s.sp) (n : Int))).last.length = 64 := by rw [← drop_sp hok.sp hn6]; rw [drop_last, hok.sp.2.1]
      have hW := fun C D cc dd W (hW : Below w.heap.size w W) hS => swith_any x s (spOf (giveU (usOf s.sp) (n : Int))) C D cc dd W hs hok.len hl1 hl2 (hA.below hW) hS
      have hwg := with_give hok hn6 hx2.1
      rw [show dropSt s (Int.toNat (⟨(n : Int), b, cs, d, e⟩ : P5).a) = dropSt s n by simp only [Int.toNat_natCast], ← hwg]
      unfold SPost2 at hG
      unfold WthPost2 at hW
      obtain ⟨sp, hsp⟩ : ∃ q, q = spOf (giveU (usOf s.sp) (n : Int)) := ⟨_, rfl⟩
      simp only [← hsp] at hG hW ⊢
      obtain ⟨wn, hwn⟩ : ∃ q, q = withSt s sp := ⟨_, rfl⟩
      have hW2 : Hid (∀ q, q = withSt s sp → q = wn) := Lib.hid (fun q h => h.trans hwn.symm)
      rw [← hwn]
      have hbe : (b == s.txg) = true := by simpa using hbt
      clear hs hA hok hn hp hp' hg hu hcp hh hpr hcap hx2 hl1 hl2 hwg hsp hwn hbt
      go_enter Try.func66, Try.ntmps66
      go_upto_region 1 with fail
      obtain ⟨W0, hW0⟩ : ∃ W, W = (((w.alloc (.cells #[.slice x.A s.rows.length x.a, .slice x.R s.sp.refs.length x.r, .slice x.L s.sp.last.length x.l, .int .i64 s.txg, .slice x.G s.gone.length x.g, .int .i64 s.keep, .slice x.D s.dead.length x.d, .bool s.same] 28)).alloc (.cells #[.int .i64 (n : Int), .int .i64 b, .int .i64 cs, .int .i64 d, .int .i64 e] 45)).alloc (.cells #[.slice none 0 0, .slice none 0 0, .slice none 0 0, .int .i64 0, .slice none 0 0, .int .i64 0, .slice none 0 0, .bool false] 28)) := ⟨_, rfl⟩
      rw [← hW0] at a0 p0 c0 B0 sz ⊢
      clear hW0
      replace sz := Nat.le_of_eq sz.symm
      obtain ⟨x0, x1, x2, x3, x4, x5, x6, x7⟩ := a0.cells
      obtain ⟨v0, v1, v2, v3, v4⟩ := p0.cells
      go_wp2_with (go_at_call 90; refine (hH _).mono ?_; rintro r w1 ⟨rfl, hb1⟩; refine Hid.out ?_)
      refine Lib.hid ?_
      clear x0 x1 x2 x3 x4 x5 x6 x7 v0 v1 v2 v3 v4
      have a1 := a0.below hb1
      have p1 := p0.below hb1
      have c1 := c0.below hb1
      have B1 := bel_then B0 hb1
      have s1 := Nat.le_trans sz hb1.size
      clear a0 p0 c0 B0 hb1
      obtain ⟨bR, oR, hxR, hlR, hcR⟩ := hR w1 B1
      obtain ⟨xA, xa, xR, xr, xL, xl, xG, xg, xD, xd⟩ := x
      dsimp only at *
      subst hxR
      obtain ⟨x0, x1, x2, x3, x4, x5, x6, x7⟩ := a1.cells
      obtain ⟨v0, v1, v2, v3, v4⟩ := p1.cells
      have L := hG _ B1
      go_wp2_with (go_at_call 101; refine L.mono ?_; rintro rr w2 ⟨A4, c4, B4, e4, rfl, ho, hb2⟩; refine Hid.out ?_)
      refine Lib.hid ?_
      clear L hG x0 x1 x2 x3 x4 x5 x6 x7 v0 v1 v2 v3 v4
      have hl0 : w.heap.size < w2.heap.size := by have := hb2.size; omega
      have hl9 : w.heap.size + 1 + 1 < w2.heap.size := by have := hb2.size; omega
      have al := fun (o : Obj) => (Below.refl w2.heap.size w2).alloc (Nat.le_refl _) o
      have a2 := (a1.below hb2).alloc (.cells #[.slice A4 sp.refs.length c4, .slice B4 sp.last.length e4] 25)
      have c2 := (c1.below hb2).alloc (.cells #[.slice A4 sp.refs.length c4, .slice B4 sp.last.length e4] 25)
      have e2 := B2.new w2 25 (.slice A4 sp.refs.length c4) (.slice B4 sp.last.length e4)
      have Bw := bel_new (bel_then B1 hb2) (.cells #[.slice A4 sp.refs.length c4, .slice B4 sp.last.length e4] 25)
      have s2 := Nat.le_trans s1 hb2.size
      have T2 := ho.two.below (al (.cells #[.slice A4 sp.refs.length c4, .slice B4 sp.last.length e4] 25))
      have L := hW A4 B4 c4 e4 _ Bw (ho.lies.below (al (.cells #[.slice A4 sp.refs.length c4, .slice B4 sp.last.length e4] 25)))
      clear a1 p1 c1 B1 hb2 al ho hW
      obtain ⟨x0, x1, x2, x3, x4, x5, x6, x7⟩ := a2.cells
      obtain ⟨⟨v0, v1⟩, _, _⟩ := e2.cells
      go_wp2_with (go_at_call 68; refine L.mono ?_; rintro rr w3 ⟨y, q, hq, rfl, hP, hb3⟩; have hq2 := hW2.out _ hq; clear hq; subst hq2; refine Hid.out ?_)
      refine Lib.hid ?_
      clear L x0 x1 x2 x3 x4 x5 x6 x7 v0 v1 e2
      rw [World.size_alloc] at hP
      have O := hP (w.heap.size + 1 + 1 + 1) w2.heap.size ((T2.below hb3).base (by omega)) (by omega) (by omega)
      have c3 := c2.below hb3
      have B3 := bel_then Bw hb3
      clear hP T2 c2 a2 Bw
      have FN := Fin8.mk2 (x := y) (s := q) (H := w.heap.size + 1 + 1) c3 (by omega) (by omega) O B3
      have HF := Lib.hid FN
      obtain ⟨z0, z1, z2, z3, z4, z5, z6, z7⟩ := c3.cells
      obtain ⟨f0, f1, f2, f3, f4, f5, f6, f7⟩ := c3.fro
      clear FN
      go_wp2_with fail
      change bodyPost Try.prog Try.f66 _ Exit.ret _ (putS w3 (w.heap.size + 1 + 1) y q)
      have HF := HF.out
      generalize putS _ _ _ _ = WF at HF ⊢
      clear z0 z1 z2 z3 z4 z5 z6 z7 f0 f1 f2 f3 f4 f5 f6 f7
      obtain ⟨⟨q0, q1, q2, q3, q4, q5, q6, q7⟩, ho, hb⟩ := (⟨HF.box.cells, HF.own, HF.bel⟩ : _ ∧ _ ∧ _)
      exact bodyPost_ret (v := .tuple #[.agg #[.slice y.A q.rows.length y.a, .slice y.R q.sp.refs.length y.r, .slice y.L q.sp.last.length y.l, .int .i64 q.txg, .slice y.G q.gone.length y.g, .int .i64 q.keep, .slice y.D q.dead.length y.d, .bool q.same], .bool true]) (by simp [results, Try.f66, go_sem, q0, q1, q2, q3, q4, q5, q6, q7]) rfl ⟨y, rfl, ho, hb⟩
    have hbl : b < s.txg := by omega
    have hbe : (b == s.txg) = false := by simpa using hbt
    by_cases hk : b ≤ s.keep
    · rw [freeSt_dead (p := (⟨(n : Int), b, cs, d, e⟩ : P5)) hh hk]
      have hbh := fun W (hW : Below w.heap.size w W) => impl_behind x.D x.d s.dead n b cs d e W hs.dead hcap.2.1 hcap.2.2 (parg_lies (hA.dead.below hW))
      clear hs hA hok hn hp hp' hg hu hh hpr hcap hx2 ht
      go_enter Try.func66, Try.ntmps66
      go_upto_region 1 with fail
      obtain ⟨W0, hW0⟩ : ∃ W, W = (((w.alloc (.cells #[.slice x.A s.rows.length x.a, .slice x.R s.sp.refs.length x.r, .slice x.L s.sp.last.length x.l, .int .i64 s.txg, .slice x.G s.gone.length x.g, .int .i64 s.keep, .slice x.D s.dead.length x.d, .bool s.same] 28)).alloc (.cells #[.int .i64 (n : Int), .int .i64 b, .int .i64 cs, .int .i64 d, .int .i64 e] 45)).alloc (.cells #[.slice none 0 0, .slice none 0 0, .slice none 0 0, .int .i64 0, .slice none 0 0, .int .i64 0, .slice none 0 0, .bool false] 28)) := ⟨_, rfl⟩
      rw [← hW0] at a0 p0 c0 B0 sz ⊢
      clear hW0
      replace sz := Nat.le_of_eq sz.symm
      obtain ⟨x0, x1, x2, x3, x4, x5, x6, x7⟩ := a0.cells
      obtain ⟨v0, v1, v2, v3, v4⟩ := p0.cells
      go_wp2_with (go_at_call 90; refine (hH _).mono ?_; rintro r w1 ⟨rfl, hb1⟩; refine Hid.out ?_)
      refine Lib.hid ?_
      clear x0 x1 x2 x3 x4 x5 x6 x7 v0 v1 v2 v3 v4
      have a1 := a0.below hb1
      have p1 := p0.below hb1
      have c1 := c0.below hb1
      have B1 := bel_then B0 hb1
      have s1 := Nat.le_trans sz hb1.size
      clear a0 p0 c0 B0 hb1
      obtain ⟨bR, oR, hxR, hlR, hcR⟩ := hR w1 B1
      obtain ⟨xA, xa, xR, xr, xL, xl, xG, xg, xD, xd⟩ := x
      dsimp only at *
      subst hxR
      have L := hcp _ B1
      obtain ⟨x0, x1, x2, x3, x4, x5, x6, x7⟩ := a1.cells
      obtain ⟨v0, v1, v2, v3, v4⟩ := p1.cells
      go_wp2_with (go_at_call 98; refine L.mono ?_; rintro rr w2 ⟨y, rfl, O, hb2⟩; refine Hid.out ?_)
      refine Lib.hid ?_
      have a2 := a1.below hb2
      have p2 := p1.below hb2
      have c2 := c1.below hb2
      have B2 := bel_then B1 hb2
      have s2 := Nat.le_trans s1 hb2.size
      have s12 := hb2.size
      clear a1 p1 c1 B1 hb2 L x0 x1 x2 x3 x4 x5 x6 x7 v0 v1 v2 v3 v4
      have al := fun (o : Obj) => (Below.refl w2.heap.size w2).alloc (Nat.le_refl _) o
      have d3 := B8.new w2 28 (.slice y.A s.rows.length y.a) (.slice y.R s.sp.refs.length y.r) (.slice y.L s.sp.last.length y.l) (.int .i64 s.txg) (.slice y.G s.gone.length y.g) (.int .i64 s.keep) (.slice y.D s.dead.length y.d) (.bool s.same)
      have a3 := a2.alloc (.cells #[.slice y.A s.rows.length y.a, .slice y.R s.sp.refs.length y.r, .slice y.L s.sp.last.length y.l, .int .i64 s.txg, .slice y.G s.gone.length y.g, .int .i64 s.keep, .slice y.D s.dead.length y.d, .bool s.same] 28)
      have p3 := p2.alloc (.cells #[.slice y.A s.rows.length y.a, .slice y.R s.sp.refs.length y.r, .slice y.L s.sp.last.length y.l, .int .i64 s.txg, .slice y.G s.gone.length y.g, .int .i64 s.keep, .slice y.D s.dead.length y.d, .bool s.same] 28)
      have c3 := c2.alloc (.cells #[.slice y.A s.rows.length y.a, .slice y.R s.sp.refs.length y.r, .slice y.L s.sp.last.length y.l, .int .i64 s.txg, .slice y.G s.gone.length y.g, .int .i64 s.keep, .slice y.D s.dead.length y.d, .bool s.same] 28)
      have B3 := bel_new B2 (.cells #[.slice y.A s.rows.length y.a, .slice y.R s.sp.refs.length y.r, .slice y.L s.sp.last.length y.l, .int .i64 s.txg, .slice y.G s.gone.length y.g, .int .i64 s.keep, .slice y.D s.dead.length y.d, .bool s.same] 28)
      have O3 := O.alloc (.cells #[.slice y.A s.rows.length y.a, .slice y.R s.sp.refs.length y.r, .slice y.L s.sp.last.length y.l, .int .i64 s.txg, .slice y.G s.gone.length y.g, .int .i64 s.keep, .slice y.D s.dead.length y.d, .bool s.same] 28)
      have s3 : w2.heap.size < (w2.alloc (.cells #[.slice y.A s.rows.length y.a, .slice y.R s.sp.refs.length y.r, .slice y.L s.sp.last.length y.l, .int .i64 s.txg, .slice y.G s.gone.length y.g, .int .i64 s.keep, .slice y.D s.dead.length y.d, .bool s.same] 28)).heap.size := d3.lt
      have hl1 : w.heap.size < w2.heap.size := by omega
      have hl2 : w.heap.size + 1 < w2.heap.size := by omega
      have hl3 : w.heap.size + 1 + 1 < w2.heap.size := by omega
      clear a2 p2 c2 B2 al O
      have L := hbh _ B3
      unfold ClonePost at L
      obtain ⟨x0, x1, x2, x3, x4, x5, x6, x7⟩ := a3.cells
      obtain ⟨v0, v1, v2, v3, v4⟩ := p3.cells
      go_wp2_with (go_at_call 102; refine L.mono ?_; rintro rr w4 ⟨A3, k3, rfl, o3, hb4⟩; refine Hid.out ?_)
      refine Lib.hid ?_
      clear L x0 x1 x2 x3 x4 x5 x6 x7 v0 v1 v2 v3 v4 hbh
      have hn : s.dead.length + 1 = (s.dead ++ [(⟨(n : Int), b, cs, d, e⟩ : P5)]).length := by simp
      have hb := hb4.size
      have d4 := d3.below hb4
      have c4 := c3.below hb4
      have B4 := bel_then B3 hb4
      have O4 := O3.below hb4
      have o4 := Own.one o3
      rw [hn] at o4
      have O5 := own_dead O4 o4 (Nat.le_of_lt s3) (by omega) (by omega)
      clear hn o3 o4 O3 O4 d3 c3 a3 p3 B3
      obtain ⟨y0, y1, y2, y3, y4, y5, y6, y7⟩ := d4.cells
      obtain ⟨f0, f1, f2, f3, f4, f5, f6, f7⟩ := d4.fro
      obtain ⟨z0, z1, z2, z3, z4, z5, z6, z7⟩ := c4.cells
      obtain ⟨g0, g1, g2, g3, g4, g5, g6, g7⟩ := c4.fro
      have hm : w.heap.size + 1 + 1 < w2.heap.size := hl3
      go_wp2_with fail
      have O6 := O5.setB (i := 6) d4 (.slice A3 (s.dead.length + 1) k3)
      have c6 := c4.set (p := ⟨w2.heap.size, 6, none⟩) (by show w.heap.size + 1 + 1 ≠ w2.heap.size; omega) (.slice A3 (s.dead.length + 1) k3)
      have B6 := B4.setCell (p := ⟨w2.heap.size, 6, none⟩) (by show w.heap.size ≤ w2.heap.size; omega) (.slice A3 (s.dead.length + 1) k3)
      have OG := (set8_own (H := w.heap.size + 1 + 1) (u0 := .slice y.A s.rows.length y.a) (u1 := .slice y.R s.sp.refs.length y.r) (u2 := .slice y.L s.sp.last.length y.l) (u3 := .int .i64 s.txg) (u4 := .slice y.G s.gone.length y.g) (u5 := .int .i64 s.keep) (u6 := .slice A3 (s.dead.length + 1) k3) (u7 := .bool s.same) O6 (by omega)).at_top.base (base' := w.heap.size) (by omega)
      have QB := set8_box (H := w.heap.size + 1 + 1) (u0 := .slice y.A s.rows.length y.a) (u1 := .slice y.R s.sp.refs.length y.r) (u2 := .slice y.L s.sp.last.length y.l) (u3 := .int .i64 s.txg) (u4 := .slice y.G s.gone.length y.g) (u5 := .int .i64 s.keep) (u6 := .slice A3 (s.dead.length + 1) k3) (u7 := .bool s.same) c6
      have BE := set8_bel (H := w.heap.size + 1 + 1) (u0 := .slice y.A s.rows.length y.a) (u1 := .slice y.R s.sp.refs.length y.r) (u2 := .slice y.L s.sp.last.length y.l) (u3 := .int .i64 s.txg) (u4 := .slice y.G s.gone.length y.g) (u5 := .int .i64 s.keep) (u6 := .slice A3 (s.dead.length + 1) k3) (u7 := .bool s.same) B6 (by omega)
      change bodyPost Try.prog Try.f66 _ Exit.ret _ ((((((((((w4.setCell ⟨w2.heap.size, 6, none⟩ (.slice A3 (s.dead.length + 1) k3)).setCell ⟨w.heap.size + 1 + 1, 0, none⟩ (.slice y.A s.rows.length y.a)).setCell ⟨w.heap.size + 1 + 1, 1, none⟩ (.slice y.R s.sp.refs.length y.r)).setCell ⟨w.heap.size + 1 + 1, 2, none⟩ (.slice y.L s.sp.last.length y.l)).setCell ⟨w.heap.size + 1 + 1, 3, none⟩ (.int .i64 s.txg)).setCell ⟨w.heap.size + 1 + 1, 4, none⟩ (.slice y.G s.gone.length y.g)).setCell ⟨w.heap.size + 1 + 1, 5, none⟩ (.int .i64 s.keep)).setCell ⟨w.heap.size + 1 + 1, 6, none⟩ (.slice A3 (s.dead.length + 1) k3)).setCell ⟨w.heap.size + 1 + 1, 7, none⟩ (.bool s.same)))
      generalize (((((((((w4.setCell ⟨w2.heap.size, 6, none⟩ (.slice A3 (s.dead.length + 1) k3)).setCell ⟨w.heap.size + 1 + 1, 0, none⟩ (.slice y.A s.rows.length y.a)).setCell ⟨w.heap.size + 1 + 1, 1, none⟩ (.slice y.R s.sp.refs.length y.r)).setCell ⟨w.heap.size + 1 + 1, 2, none⟩ (.slice y.L s.sp.last.length y.l)).setCell ⟨w.heap.size + 1 + 1, 3, none⟩ (.int .i64 s.txg)).setCell ⟨w.heap.size + 1 + 1, 4, none⟩ (.slice y.G s.gone.length y.g)).setCell ⟨w.heap.size + 1 + 1, 5, none⟩ (.int .i64 s.keep)).setCell ⟨w.heap.size + 1 + 1, 6, none⟩ (.slice A3 (s.dead.length + 1) k3)).setCell ⟨w.heap.size + 1 + 1, 7, none⟩ (.bool s.same)) = WF at OG QB BE ⊢
      clear z0 z1 z2 z3 z4 z5 z6 z7 f0 f1 f2 f3 f4 f5 f6 f7 g0 g1 g2 g3 g4 g5 g6 g7 y0 y1 y2 y3 y4 y5 y6 y7
      obtain ⟨q0, q1, q2, q3, q4, q5, q6, q7⟩ := QB.cells
      exact bodyPost_ret (v := .tuple #[.agg #[.slice y.A s.rows.length y.a, .slice y.R s.sp.refs.length y.r, .slice y.L s.sp.last.length y.l, .int .i64 s.txg, .slice y.G s.gone.length y.g, .int .i64 s.keep, .slice A3 (s.dead.length + 1) k3, .bool s.same], .bool true]) (by simp [results, Try.f66, go_sem, q0, q1, q2, q3, q4, q5, q6, q7]) rfl ⟨_, by simp only [List.length_append]; rfl, OG, BE⟩
    · rw [freeSt_gone (p := (⟨(n : Int), b, cs, d, e⟩ : P5)) hh hk hbl]
      have hbh := fun W (hW : Below w.heap.size w W) => impl_behind x.G x.g s.gone n b cs d e W hs.gone hcap.1.1 hcap.1.2 (parg_lies (hA.gone.below hW))
      clear hs hA hok hn hp hp' hg hu hh hpr hcap hx2 ht
      go_enter Try.func66, Try.ntmps66
      go_upto_region 1 with fail
      obtain ⟨W0, hW0⟩ : ∃ W, W = (((w.alloc (.cells #[.slice x.A s.rows.length x.a, .slice x.R s.sp.refs.length x.r, .slice x.L s.sp.last.length x.l, .int .i64 s.txg, .slice x.G s.gone.length x.g, .int .i64 s.keep, .slice x.D s.dead.length x.d, .bool s.same] 28)).alloc (.cells #[.int .i64 (n : Int), .int .i64 b, .int .i64 cs, .int .i64 d, .int .i64 e] 45)).alloc (.cells #[.slice none 0 0, .slice none 0 0, .slice none 0 0, .int .i64 0, .slice none 0 0, .int .i64 0, .slice none 0 0, .bool false] 28)) := ⟨_, rfl⟩
      rw [← hW0] at a0 p0 c0 B0 sz ⊢
      clear hW0
      replace sz := Nat.le_of_eq sz.symm
      obtain ⟨x0, x1, x2, x3, x4, x5, x6, x7⟩ := a0.cells
      obtain ⟨v0, v1, v2, v3, v4⟩ := p0.cells
      go_wp2_with (go_at_call 90; refine (hH _).mono ?_; rintro r w1 ⟨rfl, hb1⟩; refine Hid.out ?_)
      refine Lib.hid ?_
      clear x0 x1 x2 x3 x4 x5 x6 x7 v0 v1 v2 v3 v4
      have a1 := a0.below hb1
      have p1 := p0.below hb1
      have c1 := c0.below hb1
      have B1 := bel_then B0 hb1
      have s1 := Nat.le_trans sz hb1.size
      clear a0 p0 c0 B0 hb1
      obtain ⟨bR, oR, hxR, hlR, hcR⟩ := hR w1 B1
      obtain ⟨xA, xa, xR, xr, xL, xl, xG, xg, xD, xd⟩ := x
      dsimp only at *
      subst hxR
      have L := hcp _ B1
      obtain ⟨x0, x1, x2, x3, x4, x5, x6, x7⟩ := a1.cells
      obtain ⟨v0, v1, v2, v3, v4⟩ := p1.cells
      go_wp2_with (go_at_call 98; refine L.mono ?_; rintro rr w2 ⟨y, rfl, O, hb2⟩; refine Hid.out ?_)
      refine Lib.hid ?_
      have a2 := a1.below hb2
      have p2 := p1.below hb2
      have c2 := c1.below hb2
      have B2 := bel_then B1 hb2
      have s2 := Nat.le_trans s1 hb2.size
      have s12 := hb2.size
      clear a1 p1 c1 B1 hb2 L x0 x1 x2 x3 x4 x5 x6 x7 v0 v1 v2 v3 v4
      have al := fun (o : Obj) => (Below.refl w2.heap.size w2).alloc (Nat.le_refl _) o
      have d3 := B8.new w2 28 (.slice y.A s.rows.length y.a) (.slice y.R s.sp.refs.length y.r) (.slice y.L s.sp.last.length y.l) (.int .i64 s.txg) (.slice y.G s.gone.length y.g) (.int .i64 s.keep) (.slice y.D s.dead.length y.d) (.bool s.same)
      have a3 := a2.alloc (.cells #[.slice y.A s.rows.length y.a, .slice y.R s.sp.refs.length y.r, .slice y.L s.sp.last.length y.l, .int .i64 s.txg, .slice y.G s.gone.length y.g, .int .i64 s.keep, .slice y.D s.dead.length y.d, .bool s.same] 28)
      have p3 := p2.alloc (.cells #[.slice y.A s.rows.length y.a, .slice y.R s.sp.refs.length y.r, .slice y.L s.sp.last.length y.l, .int .i64 s.txg, .slice y.G s.gone.length y.g, .int .i64 s.keep, .slice y.D s.dead.length y.d, .bool s.same] 28)
      have c3 := c2.alloc (.cells #[.slice y.A s.rows.length y.a, .slice y.R s.sp.refs.length y.r, .slice y.L s.sp.last.length y.l, .int .i64 s.txg, .slice y.G s.gone.length y.g, .int .i64 s.keep, .slice y.D s.dead.length y.d, .bool s.same] 28)
      have B3 := bel_new B2 (.cells #[.slice y.A s.rows.length y.a, .slice y.R s.sp.refs.length y.r, .slice y.L s.sp.last.length y.l, .int .i64 s.txg, .slice y.G s.gone.length y.g, .int .i64 s.keep, .slice y.D s.dead.length y.d, .bool s.same] 28)
      have O3 := O.alloc (.cells #[.slice y.A s.rows.length y.a, .slice y.R s.sp.refs.length y.r, .slice y.L s.sp.last.length y.l, .int .i64 s.txg, .slice y.G s.gone.length y.g, .int .i64 s.keep, .slice y.D s.dead.length y.d, .bool s.same] 28)
      have s3 : w2.heap.size < (w2.alloc (.cells #[.slice y.A s.rows.length y.a, .slice y.R s.sp.refs.length y.r, .slice y.L s.sp.last.length y.l, .int .i64 s.txg, .slice y.G s.gone.length y.g, .int .i64 s.keep, .slice y.D s.dead.length y.d, .bool s.same] 28)).heap.size := d3.lt
      have hl1 : w.heap.size < w2.heap.size := by omega
      have hl2 : w.heap.size + 1 < w2.heap.size := by omega
      have hl3 : w.heap.size + 1 + 1 < w2.heap.size := by omega
      clear a2 p2 c2 B2 al O
      have L := hbh _ B3
      unfold ClonePost at L
      obtain ⟨x0, x1, x2, x3, x4, x5, x6, x7⟩ := a3.cells
      obtain ⟨v0, v1, v2, v3, v4⟩ := p3.cells
      go_wp2_with (go_at_call 102; refine L.mono ?_; rintro rr w4 ⟨A3, k3, rfl, o3, hb4⟩; refine Hid.out ?_)
      refine Lib.hid ?_
      clear L x0 x1 x2 x3 x4 x5 x6 x7 v0 v1 v2 v3 v4 hbh
      have hn : s.gone.length + 1 = (s.gone ++ [(⟨(n : Int), b, cs, d, e⟩ : P5)]).length := by simp
      have hb := hb4.size
      have d4 := d3.below hb4
      have c4 := c3.below hb4
      have B4 := bel_then B3 hb4
      have O4 := O3.below hb4
      have o4 := Own.one o3
      rw [hn] at o4
      have O5 := own_gone O4 o4 (Nat.le_of_lt s3) (by omega) (by omega)
      clear hn o3 o4 O3 O4 d3 c3 a3 p3 B3
      obtain ⟨y0, y1, y2, y3, y4, y5, y6, y7⟩ := d4.cells
      obtain ⟨f0, f1, f2, f3, f4, f5, f6, f7⟩ := d4.fro
      obtain ⟨z0, z1, z2, z3, z4, z5, z6, z7⟩ := c4.cells
      obtain ⟨g0, g1, g2, g3, g4, g5, g6, g7⟩ := c4.fro
      have hm : w.heap.size + 1 + 1 < w2.heap.size := hl3
      go_wp2_with fail
      have O6 := O5.setB (i := 4) d4 (.slice A3 (s.gone.length + 1) k3)
      have c6 := c4.set (p := ⟨w2.heap.size, 4, none⟩) (by show w.heap.size + 1 + 1 ≠ w2.heap.size; omega) (.slice A3 (s.gone.length + 1) k3)
      have B6 := B4.setCell (p := ⟨w2.heap.size, 4, none⟩) (by show w.heap.size ≤ w2.heap.size; omega) (.slice A3 (s.gone.length + 1) k3)
      have OG := (set8_own (H := w.heap.size + 1 + 1) (u0 := .slice y.A s.rows.length y.a) (u1 := .slice y.R s.sp.refs.length y.r) (u2 := .slice y.L s.sp.last.length y.l) (u3 := .int .i64 s.txg) (u4 := .slice A3 (s.gone.length + 1) k3) (u5 := .int .i64 s.keep) (u6 := .slice y.D s.dead.length y.d) (u7 := .bool s.same) O6 (by omega)).at_top.base (base' := w.heap.size) (by omega)
      have QB := set8_box (H := w.heap.size + 1 + 1) (u0 := .slice y.A s.rows.length y.a) (u1 := .slice y.R s.sp.refs.length y.r) (u2 := .slice y.L s.sp.last.length y.l) (u3 := .int .i64 s.txg) (u4 := .slice A3 (s.gone.length + 1) k3) (u5 := .int .i64 s.keep) (u6 := .slice y.D s.dead.length y.d) (u7 := .bool s.same) c6
      have BE := set8_bel (H := w.heap.size + 1 + 1) (u0 := .slice y.A s.rows.length y.a) (u1 := .slice y.R s.sp.refs.length y.r) (u2 := .slice y.L s.sp.last.length y.l) (u3 := .int .i64 s.txg) (u4 := .slice A3 (s.gone.length + 1) k3) (u5 := .int .i64 s.keep) (u6 := .slice y.D s.dead.length y.d) (u7 := .bool s.same) B6 (by omega)
      change bodyPost Try.prog Try.f66 _ Exit.ret _ ((((((((((w4.setCell ⟨w2.heap.size, 4, none⟩ (.slice A3 (s.gone.length + 1) k3)).setCell ⟨w.heap.size + 1 + 1, 0, none⟩ (.slice y.A s.rows.length y.a)).setCell ⟨w.heap.size + 1 + 1, 1, none⟩ (.slice y.R s.sp.refs.length y.r)).setCell ⟨w.heap.size + 1 + 1, 2, none⟩ (.slice y.L s.sp.last.length y.l)).setCell ⟨w.heap.size + 1 + 1, 3, none⟩ (.int .i64 s.txg)).setCell ⟨w.heap.size + 1 + 1, 4, none⟩ (.slice A3 (s.gone.length + 1) k3)).setCell ⟨w.heap.size + 1 + 1, 5, none⟩ (.int .i64 s.keep)).setCell ⟨w.heap.size + 1 + 1, 6, none⟩ (.slice y.D s.dead.length y.d)).setCell ⟨w.heap.size + 1 + 1, 7, none⟩ (.bool s.same)))
      generalize (((((((((w4.setCell ⟨w2.heap.size, 4, none⟩ (.slice A3 (s.gone.length + 1) k3)).setCell ⟨w.heap.size + 1 + 1, 0, none⟩ (.slice y.A s.rows.length y.a)).setCell ⟨w.heap.size + 1 + 1, 1, none⟩ (.slice y.R s.sp.refs.length y.r)).setCell ⟨w.heap.size + 1 + 1, 2, none⟩ (.slice y.L s.sp.last.length y.l)).setCell ⟨w.heap.size + 1 + 1, 3, none⟩ (.int .i64 s.txg)).setCell ⟨w.heap.size + 1 + 1, 4, none⟩ (.slice A3 (s.gone.length + 1) k3)).setCell ⟨w.heap.size + 1 + 1, 5, none⟩ (.int .i64 s.keep)).setCell ⟨w.heap.size + 1 + 1, 6, none⟩ (.slice y.D s.dead.length y.d)).setCell ⟨w.heap.size + 1 + 1, 7, none⟩ (.bool s.same)) = WF at OG QB BE ⊢
      clear z0 z1 z2 z3 z4 z5 z6 z7 f0 f1 f2 f3 f4 f5 f6 f7 g0 g1 g2 g3 g4 g5 g6 g7 y0 y1 y2 y3 y4 y5 y6 y7
      obtain ⟨q0, q1, q2, q3, q4, q5, q6, q7⟩ := QB.cells
      exact bodyPost_ret (v := .tuple #[.agg #[.slice y.A s.rows.length y.a, .slice y.R s.sp.refs.length y.r, .slice y.L s.sp.last.length y.l, .int .i64 s.txg, .slice A3 (s.gone.length + 1) k3, .int .i64 s.keep, .slice y.D s.dead.length y.d, .bool s.same], .bool true]) (by simp [results, Try.f66, go_sem, q0, q1, q2, q3, q4, q5, q6, q7]) rfl ⟨_, by simp only [List.length_append]; rfl, OG, BE⟩
end Go.Proofs.Ytmnamclndpfjnaa

namespace Go.Proofs.Ytmnamclndpfjnaa
open Go.RowKit

set_option maxRecDepth 100000 in
set_option maxHeartbeats 4000000 in
theorem impl_sfree (x : SA) (s : St) (a b cs d e : Int) (w : World) (hs : SBulk s) (hA : StAt w x s) (hcap : CapS x s) :
    Calls Try.prog 27 #[(.agg #[.slice x.A s.rows.length x.a, .slice x.R s.sp.refs.length x.r, .slice x.L s.sp.last.length x.l, .int .i64 s.txg, .slice x.G s.gone.length x.g, .int .i64 s.keep, .slice x.D s.dead.length x.d, .bool s.same]), .agg #[.int .i64 a, .int .i64 b, .int .i64 cs, .int .i64 d, .int .i64 e]] w (TPost2 (freeS s (⟨a, b, cs, d, e⟩ : P5)) (freeF s (⟨a, b, cs, d, e⟩ : P5)) w) := by
  have a0 := ((B8.new w 28 (.slice x.A s.rows.length x.a) (.slice x.R s.sp.refs.length x.r) (.slice x.L s.sp.last.length x.l) (.int .i64 s.txg) (.slice x.G s.gone.length x.g) (.int .i64 s.keep) (.slice x.D s.dead.length x.d) (.bool s.same)).alloc (.cells #[.int .i64 a, .int .i64 b, .int .i64 cs, .int .i64 d, .int .i64 e] 45)).alloc (.cells #[.slice none 0 0, .slice none 0 0, .slice none 0 0, .int .i64 0, .slice none 0 0, .int .i64 0, .slice none 0 0, .bool false] 28)
  have p0 := (Q5.new (w.alloc (.cells #[.slice x.A s.rows.length x.a, .slice x.R s.sp.refs.length x.r, .slice x.L s.sp.last.length x.l, .int .i64 s.txg, .slice x.G s.gone.length x.g, .int .i64 s.keep, .slice x.D s.dead.length x.d, .bool s.same] 28)) a b cs d e).alloc (.cells #[.slice none 0 0, .slice none 0 0, .slice none 0 0, .int .i64 0, .slice none 0 0, .int .i64 0, .slice none 0 0, .bool false] 28)
  have c0 := B8.new ((w.alloc (.cells #[.slice x.A s.rows.length x.a, .slice x.R s.sp.refs.length x.r, .slice x.L s.sp.last.length x.l, .int .i64 s.txg, .slice x.G s.gone.length x.g, .int .i64 s.keep, .slice x.D s.dead.length x.d, .bool s.same] 28)).alloc (.cells #[.int .i64 a, .int .i64 b, .int .i64 cs, .int .i64 d, .int .i64 e] 45)) 28 (.slice none 0 0) (.slice none 0 0) (.slice none 0 0) (.int .i64 0) (.slice none 0 0) (.int .i64 0) (.slice none 0 0) (.bool false)
  rw [World.size_alloc] at p0
  rw [World.size_alloc, World.size_alloc] at c0
  have B0 := bel_new (bel_new (bel_new (Below.refl w.heap.size w) (.cells #[.slice x.A s.rows.length x.a, .slice x.R s.sp.refs.length x.r, .slice x.L s.sp.last.length x.l, .int .i64 s.txg, .slice x.G s.gone.length x.g, .int .i64 s.keep, .slice x.D s.dead.length x.d, .bool s.same] 28)) (.cells #[.int .i64 a, .int .i64 b, .int .i64 cs, .int .i64 d, .int .i64 e] 45)) (.cells #[.slice none 0 0, .slice none 0 0, .slice none 0 0, .int .i64 0, .slice none 0 0, .int .i64 0, .slice none 0 0, .bool false] 28)
  have sz : (((w.alloc (.cells #[.slice x.A s.rows.length x.a, .slice x.R s.sp.refs.length x.r, .slice x.L s.sp.last.length x.l, .int .i64 s.txg, .slice x.G s.gone.length x.g, .int .i64 s.keep, .slice x.D s.dead.length x.d, .bool s.same] 28)).alloc (.cells #[.int .i64 a, .int .i64 b, .int .i64 cs, .int .i64 d, .int .i64 e] 45)).alloc (.cells #[.slice none 0 0, .slice none 0 0, .slice none 0 0, .int .i64 0, .slice none 0 0, .int .i64 0, .slice none 0 0, .bool false] 28)).heap.size = w.heap.size + 1 + 1 + 1 := by rw [World.size_alloc, World.size_alloc, World.size_alloc]
  have HOO := impl_mok x s _ hs (hA.below B0)
  have hP : ∀ W, Calls Try.prog 57 #[.agg #[.int .i64 a, .int .i64 b, .int .i64 cs, .int .i64 d, .int .i64 e]] W fun r w' => r = .returned (.bool (isOk a b cs d e)) ∧ Below W.heap.size W w' := fun W => (m_ok a b cs d e W).mono fun r w' ⟨h1, h2⟩ => ⟨h1, by subst h2; first | exact bel_new (bel_new (Below.refl _ _) _) _ | exact bel_new (Below.refl _ _) _⟩
  by_cases hok : StOk s
  case neg =>
    rw [okSt_no hok] at HOO
    have hn : ¬ freeOk s (⟨a, b, cs, d, e⟩ : P5) := fun h => hok h.1
    rw [freeS_no hn, freeF_no hn]
    clear hs hA hok hn hP hcap
    go_enter Try.func27, Try.ntmps27
    go_upto_region 1 with fail
    obtain ⟨W0, hW0⟩ : ∃ W, W = (((w.alloc (.cells #[.slice x.A s.rows.length x.a, .slice x.R s.sp.refs.length x.r, .slice x.L s.sp.last.length x.l, .int .i64 s.txg, .slice x.G s.gone.length x.g, .int .i64 s.keep, .slice x.D s.dead.length x.d, .bool s.same] 28)).alloc (.cells #[.int .i64 a, .int .i64 b, .int .i64 cs, .int .i64 d, .int .i64 e] 45)).alloc (.cells #[.slice none 0 0, .slice none 0 0, .slice none 0 0, .int .i64 0, .slice none 0 0, .int .i64 0, .slice none 0 0, .bool false] 28)) := ⟨_, rfl⟩
    rw [← hW0] at a0 p0 c0 B0 sz HOO ⊢
    clear hW0
    replace sz := Nat.le_of_eq sz.symm
    obtain ⟨x0, x1, x2, x3, x4, x5, x6, x7⟩ := a0.cells
    obtain ⟨v0, v1, v2, v3, v4⟩ := p0.cells
    go_wp2_with (go_at_call 55; refine (HOO).mono ?_; rintro r w1 ⟨rfl, hb1⟩; refine Hid.out ?_)
    refine Lib.hid ?_
    clear x0 x1 x2 x3 x4 x5 x6 x7 v0 v1 v2 v3 v4
    have a1 := a0.below hb1
    have p1 := p0.below hb1
    have c1 := c0.below hb1
    have B1 := bel_then B0 hb1
    have s1 := Nat.le_trans sz hb1.size
    clear a0 p0 c0 B0 hb1
    obtain ⟨x0, x1, x2, x3, x4, x5, x6, x7⟩ := a1.cells
    obtain ⟨v0, v1, v2, v3, v4⟩ := p1.cells
    obtain ⟨z0, z1, z2, z3, z4, z5, z6, z7⟩ := c1.cells
    obtain ⟨f0, f1, f2, f3, f4, f5, f6, f7⟩ := c1.fro
    go_wp2_with fail
    obtain ⟨q0, q1, q2, q3, q4, q5, q6, q7⟩ := (set8_box (u0 := .slice none 0 0) (u1 := .slice none 0 0) (u2 := .slice none 0 0) (u3 := .int .i64 0) (u4 := .slice none 0 0) (u5 := .int .i64 0) (u6 := .slice none 0 0) (u7 := .bool false) c1).cells
    exact bodyPost_ret (v := .tuple #[.agg #[.slice none 0 0, .slice none 0 0, .slice none 0 0, .int .i64 0, .slice none 0 0, .int .i64 0, .slice none 0 0, .bool false], .bool false]) (by simp [results, Try.f27, go_sem, q0, q1, q2, q3, q4, q5, q6, q7]) rfl ⟨SA.none, rfl, own_none _ _ _, set8_bel (u0 := .slice none 0 0) (u1 := .slice none 0 0) (u2 := .slice none 0 0) (u3 := .int .i64 0) (u4 := .slice none 0 0) (u5 := .int .i64 0) (u6 := .slice none 0 0) (u7 := .bool false) B1 (by omega)⟩
  rw [okSt_yes hok] at HOO
  cases hp : isOk a b cs d e with
  | false =>
    have hn : ¬ freeOk s (⟨a, b, cs, d, e⟩ : P5) := fun h => by have := h.2.1; rw [show P5.ok (⟨a, b, cs, d, e⟩ : P5) = isOk a b cs d e from rfl, hp] at this; cases this
    rw [freeS_no hn, freeF_no hn]
    simp only [hp] at hP
    clear hs hA hok hn hp hcap
    go_enter Try.func27, Try.ntmps27
    go_upto_region 1 with fail
    obtain ⟨W0, hW0⟩ : ∃ W, W = (((w.alloc (.cells #[.slice x.A s.rows.length x.a, .slice x.R s.sp.refs.length x.r, .slice x.L s.sp.last.length x.l, .int .i64 s.txg, .slice x.G s.gone.length x.g, .int .i64 s.keep, .slice x.D s.dead.length x.d, .bool s.same] 28)).alloc (.cells #[.int .i64 a, .int .i64 b, .int .i64 cs, .int .i64 d, .int .i64 e] 45)).alloc (.cells #[.slice none 0 0, .slice none 0 0, .slice none 0 0, .int .i64 0, .slice none 0 0, .int .i64 0, .slice none 0 0, .bool false] 28)) := ⟨_, rfl⟩
    rw [← hW0] at a0 p0 c0 B0 sz HOO ⊢
    clear hW0
    replace sz := Nat.le_of_eq sz.symm
    obtain ⟨x0, x1, x2, x3, x4, x5, x6, x7⟩ := a0.cells
    obtain ⟨v0, v1, v2, v3, v4⟩ := p0.cells
    go_wp2_with (go_at_call 55; refine (HOO).mono ?_; rintro r w1 ⟨rfl, hb1⟩; refine Hid.out ?_)
    refine Lib.hid ?_
    clear x0 x1 x2 x3 x4 x5 x6 x7 v0 v1 v2 v3 v4
    have a1 := a0.below hb1
    have p1 := p0.below hb1
    have c1 := c0.below hb1
    have B1 := bel_then B0 hb1
    have s1 := Nat.le_trans sz hb1.size
    clear a0 p0 c0 B0 hb1
    obtain ⟨x0, x1, x2, x3, x4, x5, x6, x7⟩ := a1.cells
    obtain ⟨v0, v1, v2, v3, v4⟩ := p1.cells
    go_wp2_with (go_at_call 57; refine (hP _).mono ?_; rintro r w2 ⟨rfl, hb2⟩; refine Hid.out ?_)
    refine Lib.hid ?_
    clear x0 x1 x2 x3 x4 x5 x6 x7 v0 v1 v2 v3 v4
    have a2 := a1.below hb2
    have p2 := p1.below hb2
    have c2 := c1.below hb2
    have B2 := bel_then B1 hb2
    have s2 := Nat.le_trans s1 hb2.size
    clear a1 p1 c1 B1 hb2
    obtain ⟨x0, x1, x2, x3, x4, x5, x6, x7⟩ := a2.cells
    obtain ⟨v0, v1, v2, v3, v4⟩ := p2.cells
    obtain ⟨z0, z1, z2, z3, z4, z5, z6, z7⟩ := c2.cells
    obtain ⟨f0, f1, f2, f3, f4, f5, f6, f7⟩ := c2.fro
    go_wp2_with fail
    obtain ⟨q0, q1, q2, q3, q4, q5, q6, q7⟩ := (set8_box (u0 := .slice none 0 0) (u1 := .slice none 0 0) (u2 := .slice none 0 0) (u3 := .int .i64 0) (u4 := .slice none 0 0) (u5 := .int .i64 0) (u6 := .slice none 0 0) (u7 := .bool false) c2).cells
    exact bodyPost_ret (v := .tuple #[.agg #[.slice none 0 0, .slice none 0 0, .slice none 0 0, .int .i64 0, .slice none 0 0, .int .i64 0, .slice none 0 0, .bool false], .bool false]) (by simp [results, Try.f27, go_sem, q0, q1, q2, q3, q4, q5, q6, q7]) rfl ⟨SA.none, rfl, own_none _ _ _, set8_bel (u0 := .slice none 0 0) (u1 := .slice none 0 0) (u2 := .slice none 0 0) (u3 := .int .i64 0) (u4 := .slice none 0 0) (u5 := .int .i64 0) (u6 := .slice none 0 0) (u7 := .bool false) B2 (by omega)⟩
  | true =>
    have hF := fun W (hW : Below w.heap.size w W) => impl_freed x s a b cs d e W hs hok hp (hA.below hW) hcap
    unfold TPost2 at hF
    obtain ⟨fs, hfs⟩ : ∃ q, q = freeS s (⟨a, b, cs, d, e⟩ : P5) := ⟨_, rfl⟩
    obtain ⟨fb, hfb⟩ : ∃ q, q = freeF s (⟨a, b, cs, d, e⟩ : P5) := ⟨_, rfl⟩
    simp only [← hfs, ← hfb] at hF ⊢
    simp only [hp] at hP
    clear hs hA hok hp hcap hfs hfb
    go_enter Try.func27, Try.ntmps27
    go_upto_region 1 with fail
    obtain ⟨W0, hW0⟩ : ∃ W, W = (((w.alloc (.cells #[.slice x.A s.rows.length x.a, .slice x.R s.sp.refs.length x.r, .slice x.L s.sp.last.length x.l, .int .i64 s.txg, .slice x.G s.gone.length x.g, .int .i64 s.keep, .slice x.D s.dead.length x.d, .bool s.same] 28)).alloc (.cells #[.int .i64 a, .int .i64 b, .int .i64 cs, .int .i64 d, .int .i64 e] 45)).alloc (.cells #[.slice none 0 0, .slice none 0 0, .slice none 0 0, .int .i64 0, .slice none 0 0, .int .i64 0, .slice none 0 0, .bool false] 28)) := ⟨_, rfl⟩
    rw [← hW0] at a0 p0 c0 B0 sz HOO ⊢
    clear hW0
    replace sz := Nat.le_of_eq sz.symm
    obtain ⟨x0, x1, x2, x3, x4, x5, x6, x7⟩ := a0.cells
    obtain ⟨v0, v1, v2, v3, v4⟩ := p0.cells
    go_wp2_with (go_at_call 55; refine (HOO).mono ?_; rintro r w1 ⟨rfl, hb1⟩; refine Hid.out ?_)
    refine Lib.hid ?_
    clear x0 x1 x2 x3 x4 x5 x6 x7 v0 v1 v2 v3 v4
    have a1 := a0.below hb1
    have p1 := p0.below hb1
    have c1 := c0.below hb1
    have B1 := bel_then B0 hb1
    have s1 := Nat.le_trans sz hb1.size
    clear a0 p0 c0 B0 hb1
    obtain ⟨x0, x1, x2, x3, x4, x5, x6, x7⟩ := a1.cells
    obtain ⟨v0, v1, v2, v3, v4⟩ := p1.cells
    go_wp2_with (go_at_call 57; refine (hP _).mono ?_; rintro r w2 ⟨rfl, hb2⟩; refine Hid.out ?_)
    refine Lib.hid ?_
    clear x0 x1 x2 x3 x4 x5 x6 x7 v0 v1 v2 v3 v4
    have a2 := a1.below hb2
    have p2 := p1.below hb2
    have c2 := c1.below hb2
    have B2 := bel_then B1 hb2
    have s2 := Nat.le_trans s1 hb2.size
    clear a1 p1 c1 B1 hb2
    obtain ⟨x0, x1, x2, x3, x4, x5, x6, x7⟩ := a2.cells
    obtain ⟨v0, v1, v2, v3, v4⟩ := p2.cells
    have L := hF _ B2
    go_wp2_with (go_at_call 66; refine L.mono ?_; rintro rr w3 ⟨y, rfl, O, hb3⟩; refine Hid.out ?_)
    refine Lib.hid ?_
    clear x0 x1 x2 x3 x4 x5 x6 x7 v0 v1 v2 v3 v4 L hF
    have c3 := c2.below hb3
    have B3 := bel_then B2 hb3
    have FN := Fin8.mk2 (x := y) (s := fs) (H := w.heap.size + 1 + 1) c3 (by omega) (by omega) O B3
    have HF := Lib.hid FN
    obtain ⟨z0, z1, z2, z3, z4, z5, z6, z7⟩ := c3.cells
    obtain ⟨f0, f1, f2, f3, f4, f5, f6, f7⟩ := c3.fro
    clear FN
    go_wp2_with fail
    change bodyPost Try.prog Try.f27 _ Exit.ret _ (putS w3 (w.heap.size + 1 + 1) y fs)
    have HF := HF.out
    generalize putS _ _ _ _ = WF at HF ⊢
    clear z0 z1 z2 z3 z4 z5 z6 z7 f0 f1 f2 f3 f4 f5 f6 f7
    obtain ⟨⟨q0, q1, q2, q3, q4, q5, q6, q7⟩, ho, hb⟩ := (⟨HF.box.cells, HF.own, HF.bel⟩ : _ ∧ _ ∧ _)
    exact bodyPost_ret (v := .tuple #[.agg #[.slice y.A fs.rows.length y.a, .slice y.R fs.sp.refs.length y.r, .slice y.L fs.sp.last.length y.l, .int .i64 fs.txg, .slice y.G fs.gone.length y.g, .int .i64 fs.keep, .slice y.D fs.dead.length y.d, .bool fs.same], .bool fb]) (by simp [results, Try.f27, go_sem, q0, q1, q2, q3, q4, q5, q6, q7]) rfl ⟨y, rfl, ho, hb⟩
end Go.Proofs.Ytmnamclndpfjnaa
