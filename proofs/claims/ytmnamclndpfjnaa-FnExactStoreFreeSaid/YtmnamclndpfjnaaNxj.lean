/-
  The store of the next group, as the program makes it.
-/
import Derived.Test.YtmnamclndpfjnaaWth
import Derived.Test.YtmnamclndpfjnaaNxt
import Derived.Test.YtmnamclndpfjnaaNxi
import Derived.Test.YtmnamclndpfjnaaSOk
namespace Go.Proofs.Ytmnamclndpfjnaa
open Go.RowKit

/-- A space's rows and those of the copy, made behind. -/
theorem own_wth {w : World} {base m1 m2 top r ya cc dd yg yd : Nat} {C D yG yD : Option Addr} {p : Sp} {s : St} (hS : Own w base m1 [⟨3, 1, p.refs.length, .slice C p.refs.length cc, intCells p.refs⟩, ⟨3, 1, p.last.length, .slice D p.last.length dd, intCells p.last⟩])
    (hP : Own w m2 top [⟨9, 1, s.rows.length, .slice (some ⟨r, 0, none⟩) s.rows.length ya, strCells (emptTo p.refs s.rows 64)⟩, ⟨45, 5, s.gone.length, .slice yG s.gone.length yg, flat s.gone⟩, ⟨45, 5, s.dead.length, .slice yD s.dead.length yd, flat s.dead⟩])
    (h1 : m1 ≤ m2) (h2 : base ≤ m2) (h3 : m1 ≤ top) : Own w base top (rows5 (⟨some ⟨r, 0, none⟩, ya, C, cc, D, dd, yG, yg, yD, yd⟩ : SA) (withSt s p)) := by
  have k := (hS.more hP h1 h2 h3).perm ((List.perm_append_comm (l₁ := [_, _]) (l₂ := [_])).append (List.Perm.refl [_, _]))
  unfold rows5 withSt
  simp only [emptTo_len]
  exact k

theorem B8.lt1 {W : World} {g : Nat} {t : TypeId} {v0 v1 v2 v3 v4 v5 v6 v7 : Value} (h : B8 W (g + 1) t v0 v1 v2 v3 v4 v5 v6 v7) : g < W.heap.size := Nat.lt_of_succ_lt h.lt
theorem own_ne {w : World} {base m n sz : Nat} {t t' : TypeId} {v : Value} {xs : List Value} {cs : Array Value} {z : Nat × Nat} (h : w.ownsRow base t sz v n xs) (hb : w.heap[m]? = some (.cells cs t' z)) (ht : t ≠ t') : v.ownBlock ≠ some m := by
  intro hv
  rcases h.2 with ⟨rfl, _⟩ | ⟨g, cap, cur, rfl, _, hg, _⟩
  · cases hv
  · have e : g = m := by simpa [Value.ownBlock] using hv
    subst e
    rw [hb] at hg
    injection hg with hg
    injection hg with h1 h2 h3
    exact ht h2.symm
theorem Own.onlyN {w w' : World} {base top m : Nat} {L : List Rw} (h : Own w base top L) (hne : ∀ r ∈ L, r.v.ownBlock ≠ some m) (hg : Only m (m + 1) w w') : Own w' base top L :=
  ⟨fun r hr => ⟨own_only (h.1 r hr).1 hg (fun k hk hn => hne r hr (by rw [hk]; congr 1; omega)), (h.1 r hr).2⟩, h.2⟩
theorem Own.away {w : World} {base top m : Nat} {x : SA} {s : St} {v0 v1 v2 v3 v4 v5 v6 v7 : Value} (h : Own w base top (rows5 x s)) (hb : B8 w m 28 v0 v1 v2 v3 v4 v5 v6 v7) : ∀ r ∈ rows5 x s, r.v.ownBlock ≠ some m := by
  intro r hr
  have hw := (h.1 r hr).1
  simp only [rows5, List.mem_cons, List.not_mem_nil, or_false] at hr
  rcases hr with rfl | rfl | rfl | rfl | rfl <;> exact own_ne hw hb (fun e => by cases e)
/-- One cell of a box is written. -/
theorem Own.setB {w : World} {base top m i : Nat} {x : SA} {s : St} {v0 v1 v2 v3 v4 v5 v6 v7 : Value} (h : Own w base top (rows5 x s)) (hb : B8 w m 28 v0 v1 v2 v3 v4 v5 v6 v7) (u : Value) : Own (w.setCell ⟨m, i, none⟩ u) base top (rows5 x s) :=
  h.onlyN (h.away hb) (only_set (p := ⟨m, i, none⟩) (Nat.le_refl _) (Nat.lt_succ_self _) u)
section
variable {W : World} {H base top : Nat} {u0 u1 u2 u3 u4 u5 u6 u7 v0 v1 v2 v3 v4 v5 v6 v7 : Value} {x : SA} {s : St}
theorem set8_ownB (h : Own W base top (rows5 x s)) (hb : B8 W H 28 v0 v1 v2 v3 v4 v5 v6 v7) : Own ((((((((W.setCell ⟨H, 0, none⟩ u0).setCell ⟨H, 1, none⟩ u1).setCell ⟨H, 2, none⟩ u2).setCell ⟨H, 3, none⟩ u3).setCell ⟨H, 4, none⟩ u4).setCell ⟨H, 5, none⟩ u5).setCell ⟨H, 6, none⟩ u6).setCell ⟨H, 7, none⟩ u7) base top (rows5 x s) :=
  (((((((h.setB hb _).setB (hb.put0 _) _).setB ((hb.put0 _).put1 _) _).setB (((hb.put0 _).put1 _).put2 _) _).setB ((((hb.put0 _).put1 _).put2 _).put3 _) _).setB (((((hb.put0 _).put1 _).put2 _).put3 _).put4 _) _).setB ((((((hb.put0 _).put1 _).put2 _).put3 _).put4 _).put5 _) _).setB (((((((hb.put0 _).put1 _).put2 _).put3 _).put4 _).put5 _).put6 _) _
end
def WthPost2 (s : St) (p : Sp) (C : Option Addr) (cc : Nat) (D : Option Addr) (dd : Nat) (w : World) (e : Ending) (w' : World) : Prop :=
  ∃ (y : SA) (wn : St), wn = withSt s p ∧ e = .returned (.agg #[.slice y.A wn.rows.length y.a, .slice y.R wn.sp.refs.length y.r, .slice y.L wn.sp.last.length y.l, .int .i64 wn.txg, .slice y.G wn.gone.length y.g, .int .i64 wn.keep, .slice y.D wn.dead.length y.d, .bool wn.same]) ∧ (∀ base m1, Own w' base m1 [⟨3, 1, p.refs.length, .slice C p.refs.length cc, intCells p.refs⟩, ⟨3, 1, p.last.length, .slice D p.last.length dd, intCells p.last⟩] → m1 ≤ w.heap.size → base ≤ w.heap.size → Own w' base w'.heap.size (rows5 y wn)) ∧ Below w.heap.size w w'
theorem swith_any (x : SA) (s : St) (p : Sp) (C D : Option Addr) (cc dd : Nat) (w : World) (hs : SBulk s) (h64 : s.rows.length = 64) (hp1 : p.refs.length = 64) (hp2 : p.last.length = 64) (hA : StAt w x s) (hS : SpAt w C D p) :
    Calls Try.prog 68 #[(.agg #[.slice x.A s.rows.length x.a, .slice x.R s.sp.refs.length x.r, .slice x.L s.sp.last.length x.l, .int .i64 s.txg, .slice x.G s.gone.length x.g, .int .i64 s.keep, .slice x.D s.dead.length x.d, .bool s.same]), .agg #[.slice C p.refs.length cc, .slice D p.last.length dd]] w (WthPost2 s p C cc D dd w) := by
  have L := impl_swith x s p C D cc dd w hs h64 hp1 hA hS
  have e1 : (withSt s p).rows.length = s.rows.length := emptTo_len _ _ _
  have e2 : (withSt s p).sp.refs.length = 64 := hp1
  have e3 : (withSt s p).sp.last.length = 64 := hp2
  rw [hp1, hp2]
  refine L.mono ?_
  rintro r w2 ⟨r, ya, yG, yg, yD, yd, rfl, hP, hb⟩
  refine ⟨⟨some ⟨r, 0, none⟩, ya, C, cc, D, dd, yG, yg, yD, yd⟩, _, rfl, by rw [e1, e2, e3]; rfl, fun base m1 hS h1 h2 => ?_, hb⟩
  exact own_wth hS hP h1 h2 (Nat.le_trans h1 hb.size)

set_option maxRecDepth 100000 in
set_option maxHeartbeats 3000000 in
theorem impl_stnext (x : SA) (s : St) (w : World) (hs : SBulk s) (hA : StAt w x s) : Calls Try.prog 29 #[(.agg #[.slice x.A s.rows.length x.a, .slice x.R s.sp.refs.length x.r, .slice x.L s.sp.last.length x.l, .int .i64 s.txg, .slice x.G s.gone.length x.g, .int .i64 s.keep, .slice x.D s.dead.length x.d, .bool s.same])] w (TPost2 (nextS s) (nextB s) w) := by
  have a := (B8.new w 28 (.slice x.A s.rows.length x.a) (.slice x.R s.sp.refs.length x.r) (.slice x.L s.sp.last.length x.l) (.int .i64 s.txg) (.slice x.G s.gone.length x.g) (.int .i64 s.keep) (.slice x.D s.dead.length x.d) (.bool s.same)).alloc (.cells #[.slice none 0 0, .slice none 0 0, .slice none 0 0, .int .i64 0, .slice none 0 0, .int .i64 0, .slice none 0 0, .bool false] 28)
  have c := B8.new (w.alloc (.cells #[.slice x.A s.rows.length x.a, .slice x.R s.sp.refs.length x.r, .slice x.L s.sp.last.length x.l, .int .i64 s.txg, .slice x.G s.gone.length x.g, .int .i64 s.keep, .slice x.D s.dead.length x.d, .bool s.same] 28)) 28 (.slice none 0 0) (.slice none 0 0) (.slice none 0 0) (.int .i64 0) (.slice none 0 0) (.int .i64 0) (.slice none 0 0) (.bool false)
  rw [World.size_alloc] at c
  have BB := bel_new (bel_new (Below.refl w.heap.size w) (.cells #[.slice x.A s.rows.length x.a, .slice x.R s.sp.refs.length x.r, .slice x.L s.sp.last.length x.l, .int .i64 s.txg, .slice x.G s.gone.length x.g, .int .i64 s.keep, .slice x.D s.dead.length x.d, .bool s.same] 28)) (.cells #[.slice none 0 0, .slice none 0 0, .slice none 0 0, .int .i64 0, .slice none 0 0, .int .i64 0, .slice none 0 0, .bool false] 28)
  have sz : ((w.alloc (.cells #[.slice x.A s.rows.length x.a, .slice x.R s.sp.refs.length x.r, .slice x.L s.sp.last.length x.l, .int .i64 s.txg, .slice x.G s.gone.length x.g, .int .i64 s.keep, .slice x.D s.dead.length x.d, .bool s.same] 28)).alloc (.cells #[.slice none 0 0, .slice none 0 0, .slice none 0 0, .int .i64 0, .slice none 0 0, .int .i64 0, .slice none 0 0, .bool false] 28)).heap.size = w.heap.size + 1 + 1 := by rw [World.size_alloc, World.size_alloc]
  have hO := impl_mok x s _ hs (hA.below BB)
  by_cases hok : StOk s
  · rw [okSt_yes hok] at hO
    have ht := hok.txg
    by_cases h9 : s.txg < 900
    · rw [nextS_yes ⟨hok, h9⟩, nextB_yes ⟨hok, h9⟩]
      have hN := fun W (hW : Below w.heap.size w W) => impl_snext x s W hok hs.gone (hA.below hW)
      have hok2 := next_ok hok
      have hW := fun C D cc dd W (hW : Below w.heap.size w W) hS => swith_any x s (spOf (nextU (usOf s.sp) s.gone)) C D cc dd W hs hok.len hok2.1 hok2.2.1 (hA.below hW) hS
      have hng : (s.txg == 900) = false := by simp; omega
      obtain ⟨sp, hsp⟩ : ∃ n, n = spOf (nextU (usOf s.sp) s.gone) := ⟨_, rfl⟩
      rw [← hsp] at hok2
      simp only [← hsp] at hN hW
      have hfin : { withSt s sp with gone := [], txg := (withSt s sp).txg + 1 } = nextSt s := by rw [hsp]; rfl
      obtain ⟨ns, hns⟩ : ∃ n, n = nextSt s := ⟨_, rfl⟩
      rw [← hns] at hfin ⊢
      have HF := Lib.hid hfin
      have HQ := Lib.hid hok2
      clear hs hA hok hns hsp hfin hok2
      go_enter Try.func29, Try.ntmps29
      go_upto_region 1 with fail
      obtain ⟨W0, hW0⟩ : ∃ W, W = (w.alloc (.cells #[.slice x.A s.rows.length x.a, .slice x.R s.sp.refs.length x.r, .slice x.L s.sp.last.length x.l, .int .i64 s.txg, .slice x.G s.gone.length x.g, .int .i64 s.keep, .slice x.D s.dead.length x.d, .bool s.same] 28)).alloc (.cells #[.slice none 0 0, .slice none 0 0, .slice none 0 0, .int .i64 0, .slice none 0 0, .int .i64 0, .slice none 0 0, .bool false] 28) := ⟨_, rfl⟩
      rw [← hW0] at a c BB sz hO ⊢
      clear hW0
      replace sz := Nat.le_of_eq sz.symm
      obtain ⟨x0, x1, x2, x3, x4, x5, x6, x7⟩ := a.cells
      go_wp2_with (go_at_call 55; refine hO.mono ?_; rintro r w1 ⟨rfl, hb1⟩; refine Hid.out ?_)
      refine Lib.hid ?_
      clear x0 x1 x2 x3 x4 x5 x6 x7 hO
      have a := a.below hb1
      have c := c.below hb1
      have BB := bel_then BB hb1
      have s1 := Nat.le_trans sz hb1.size
      obtain ⟨x0, x1, x2, x3, x4, x5, x6, x7⟩ := a.cells
      have hl1 : w.heap.size < w1.heap.size := by omega
      have hl2 : w.heap.size + 1 < w1.heap.size := by omega
      go_upto_region 3 with fail
      have L1 := hN _ BB.drew
      unfold SPost at L1
      have s1d := Nat.le_trans s1 (Nat.le_of_eq (World.size_drew _).symm)
      go_cut [4] (fun v wx => ∃ (y : SA) (wn : St) (m : Nat), wn = withSt s sp ∧ v = .pointer (some ⟨m, 0, none⟩) ∧ B8 wx m 28 (.slice y.A wn.rows.length y.a) (.slice y.R wn.sp.refs.length y.r) (.slice y.L wn.sp.last.length y.l) (.int .i64 wn.txg) (.slice y.G wn.gone.length y.g) (.int .i64 wn.keep) (.slice y.D wn.dead.length y.d) (.bool wn.same) ∧ B8 wx (w.heap.size + 1) 28 (.slice none 0 0) (.slice none 0 0) (.slice none 0 0) (.int .i64 0) (.slice none 0 0) (.int .i64 0) (.slice none 0 0) (.bool false) ∧ Own wx (w.heap.size + 1 + 1) wx.heap.size (rows5 y wn) ∧ Below w.heap.size w wx ∧ w.heap.size + 1 + 1 ≤ m)
      case first =>
        go_region_with (first
            | (go_at_call 68; first
              | (refine (hW A4 B4 c4 e4 wa BA ho.lies).mono ?_; rintro rr wb ⟨y, wn, hwn, rfl, hP, hbb⟩; have HW := Lib.hid hwn; clear hwn; (try obtain ⟨⟨z0, z1, z2, z3, z4, z5, z6, z7⟩, f0, f1, f2, f3, f4, f5, f6, f7⟩ := (⟨(dz.below hbb).cells, (dz.below hbb).fro⟩ : _ ∧ _)))
              | (refine (hW A4 B4 c4 e4 _ (bel_new BA _) (ho.lies.below ((Below.refl _ wa).alloc (Nat.le_refl _) _))).mono ?_; rintro rr wb ⟨y, wn, hwn, rfl, hP, hbb⟩; have HW := Lib.hid hwn; clear hwn; have dy := (B8.new wa 28 (.slice none 0 0) (.slice none 0 0) (.slice none 0 0) (.int .i64 0) (.slice none 0 0) (.int .i64 0) (.slice none 0 0) (.bool false)).below hbb; obtain ⟨⟨z0, z1, z2, z3, z4, z5, z6, z7⟩, f0, f1, f2, f3, f4, f5, f6, f7⟩ := (⟨dy.cells, dy.fro⟩ : _ ∧ _)))
            | (go_at_call 69; first
              | (refine (hN _ BB.drew).mono ?_; rintro rr wa ⟨A4, c4, B4, e4, rfl, ho, hba⟩; have BA := bel_then BB.drew hba; have ca := c.drew.below hba; have hba2 := hba.size; have hl3 : w.heap.size < wa.heap.size := ca.lt1; obtain ⟨x0, x1, x2, x3, x4, x5, x6, x7⟩ := (a.drew.below hba).cells)
              | (refine (hN _ (bel_new BB.drew _)).mono ?_; rintro rr wa ⟨A4, c4, B4, e4, rfl, ho, hba⟩; have BA := bel_then (bel_new BB.drew _) hba; have ca := (c.drew.alloc (.cells #[.slice none 0 0, .slice none 0 0, .slice none 0 0, .int .i64 0, .slice none 0 0, .int .i64 0, .slice none 0 0, .bool false] 28)).below hba; have hba2 := hba.size; have hl3 : w.heap.size < wa.heap.size := ca.lt1; have dz : B8 wa w1.heap.size 28 (.slice none 0 0) (.slice none 0 0) (.slice none 0 0) (.int .i64 0) (.slice none 0 0) (.int .i64 0) (.slice none 0 0) (.bool false) := (B8.new w1.drew 28 (.slice none 0 0) (.slice none 0 0) (.slice none 0 0) (.int .i64 0) (.slice none 0 0) (.int .i64 0) (.slice none 0 0) (.bool false)).below hba; obtain ⟨x0, x1, x2, x3, x4, x5, x6, x7⟩ := ((a.drew.alloc _).below hba).cells)))
        all_goals go_wp2_with fail
        all_goals (try go_simp)
        all_goals go_meet
        all_goals (try simp only [World.size_alloc] at hba2)
        all_goals have hbb2 := hbb.size
        all_goals have e1 := World.size_drew w1
        all_goals first
          | (refine ⟨y, wn, _, HW.out, rfl, (by with_reducible exact B8.new wb 28 (.slice y.A wn.rows.length y.a) (.slice y.R wn.sp.refs.length y.r) (.slice y.L wn.sp.last.length y.l) (.int .i64 wn.txg) (.slice y.G wn.gone.length y.g) (.int .i64 wn.keep) (.slice y.D wn.dead.length y.d) (.bool wn.same)), ?_, ?_, ?_, ?_⟩
             · with_reducible exact (ca.below hbb).alloc _
             · have O1 := hP (w.heap.size + 1 + 1) wa.heap.size ((ho.two.below hbb).base (by omega)) (by omega) (by omega)
               with_reducible exact (O1.alloc _).at_top
             · with_reducible exact bel_new (bel_then BA hbb) _
             · omega)
          | (refine ⟨y, wn, _, HW.out, rfl, (by with_reducible exact set8_box dy), ?_, ?_, ?_, ?_⟩
             · with_reducible exact set8_far ((ca.alloc _).below hbb) (by omega)
             · have O1 := hP (w.heap.size + 1 + 1) wa.heap.size (((ho.two.below ((Below.refl _ wa).alloc (Nat.le_refl _) _)).below hbb).base (by omega)) (by rw [World.size_alloc]; omega) (by rw [World.size_alloc]; omega)
               with_reducible exact (set8_ownB O1 dy).at_top
             · with_reducible exact set8_bel (bel_then (bel_new BA _) hbb) (by omega)
             · omega)
          | (have dq := dz.below hbb
             refine ⟨y, wn, _, HW.out, rfl, (by with_reducible exact set8_box dq), ?_, ?_, ?_, ?_⟩
             · with_reducible exact set8_far (ca.below hbb) (by omega)
             · have O1 := hP (w.heap.size + 1 + 1) wa.heap.size ((ho.two.below hbb).base (by rw [World.size_alloc]; omega)) (by omega) (by omega)
               with_reducible exact (set8_ownB O1 dq).at_top
             · with_reducible exact set8_bel (bel_then BA hbb) (by omega)
             · omega)
      case rest =>
        clear s1 s1d hl1 hl2 hN hW a c BB L1 x0 x1 x2 x3 x4 x5 x6 x7
        obtain ⟨y, wn, m, hwn, rfl, d, c, O, BB, hm⟩ := hcut
        have hE := HF.out
        rw [← hwn] at hE
        have HE := Lib.hid hE
        have htx : wn.txg = s.txg := by rw [hwn]; rfl
        have ht2 : 1 ≤ wn.txg ∧ wn.txg < 900 := by omega
        clear hE HF HQ hwn htx ht h9 hng
        obtain ⟨y0, y1, y2, y3, y4, y5, y6, y7⟩ := d.cells
        obtain ⟨f0, f1, f2, f3, f4, f5, f6, f7⟩ := d.fro
        go_upto_region 6 with fail
        have hE := HE.out
        clear HE
        subst hE
        have hlc := d.lt
        have O1 := own_gone (A := none) (c := 0) (L := []) O (own_nil1 _ wc.heap.size wc.heap.size) (Nat.le_refl _) (by omega) (Nat.le_refl _)
        have O5 : Own ((wc.setCell ⟨m, 4, none⟩ (.slice none 0 0)).setCell ⟨m, 3, none⟩ (.int .i64 (wn.txg + 1))) (w.heap.size + 1 + 1) wc.heap.size (rows5 ({ y with G := none, g := 0 } : SA) ({ wn with gone := [], txg := wn.txg + 1 } : St)) := (O1.setB d _).setB (d.put4 _) _
        have c5 := (c.set (p := ⟨m, 4, none⟩) (by show w.heap.size + 1 ≠ m; omega) (.slice none 0 0)).set (p := ⟨m, 3, none⟩) (by show w.heap.size + 1 ≠ m; omega) (.int .i64 (wn.txg + 1))
        have d5 := (d.put4 (.slice none 0 0)).put3 (.int .i64 (wn.txg + 1))
        have B5 := (BB.setCell (p := ⟨m, 4, none⟩) (by show w.heap.size ≤ m; omega) (.slice none 0 0)).setCell (p := ⟨m, 3, none⟩) (by show w.heap.size ≤ m; omega) (.int .i64 (wn.txg + 1))
        generalize (wc.setCell ⟨m, 4, none⟩ (.slice none 0 0)).setCell ⟨m, 3, none⟩ (.int .i64 (wn.txg + 1)) = W5 at O5 c5 d5 B5 ⊢
        clear y0 y1 y2 y3 y4 y5 y6 y7 f0 f1 f2 f3 f4 f5 f6 f7 O O1 c d BB
        obtain ⟨y0, y1, y2, y3, y4, y5, y6, y7⟩ := d5.cells
        have FN := Fin8.mk2 (x := ({ y with G := none, g := 0 } : SA)) (s := ({ wn with gone := [], txg := wn.txg + 1 } : St)) (H := w.heap.size + 1) c5 (by omega) (by omega) O5 B5
        have HF := Lib.hid FN
        obtain ⟨z0, z1, z2, z3, z4, z5, z6, z7⟩ := c5.cells
        obtain ⟨f0, f1, f2, f3, f4, f5, f6, f7⟩ := c5.fro
        clear FN
        go_wp2_with fail
        change bodyPost Try.prog Try.f29 _ Exit.ret _ (putS W5 (w.heap.size + 1) ({ y with G := none, g := 0 } : SA) ({ wn with gone := [], txg := wn.txg + 1 } : St))
        have HF := HF.out
        generalize putS _ _ _ _ = WF at HF ⊢
        clear z0 z1 z2 z3 z4 z5 z6 z7 f0 f1 f2 f3 f4 f5 f6 f7
        obtain ⟨⟨q0, q1, q2, q3, q4, q5, q6, q7⟩, ho, hb⟩ := (⟨HF.box.cells, HF.own, HF.bel⟩ : _ ∧ _ ∧ _)
        exact bodyPost_ret (v := .tuple #[.agg #[.slice ({ y with G := none, g := 0 } : SA).A ({ wn with gone := [], txg := wn.txg + 1 } : St).rows.length ({ y with G := none, g := 0 } : SA).a, .slice ({ y with G := none, g := 0 } : SA).R ({ wn with gone := [], txg := wn.txg + 1 } : St).sp.refs.length ({ y with G := none, g := 0 } : SA).r, .slice ({ y with G := none, g := 0 } : SA).L ({ wn with gone := [], txg := wn.txg + 1 } : St).sp.last.length ({ y with G := none, g := 0 } : SA).l, .int .i64 ({ wn with gone := [], txg := wn.txg + 1 } : St).txg, .slice ({ y with G := none, g := 0 } : SA).G ({ wn with gone := [], txg := wn.txg + 1 } : St).gone.length ({ y with G := none, g := 0 } : SA).g, .int .i64 ({ wn with gone := [], txg := wn.txg + 1 } : St).keep, .slice ({ y with G := none, g := 0 } : SA).D ({ wn with gone := [], txg := wn.txg + 1 } : St).dead.length ({ y with G := none, g := 0 } : SA).d, .bool ({ wn with gone := [], txg := wn.txg + 1 } : St).same], .bool true]) (by simp [results, Try.f29, go_sem, q0, q1, q2, q3, q4, q5, q6, q7]) rfl ⟨({ y with G := none, g := 0 } : SA), rfl, ho, hb⟩
    · rw [nextS_no (fun h => h9 h.2), nextB_no (fun h => h9 h.2)]
      have hng : (s.txg == 900) = true := by simp; omega
      clear hs hA hok h9
      go_enter Try.func29, Try.ntmps29
      go_upto_region 1 with fail
      obtain ⟨W0, hW0⟩ : ∃ W, W = (w.alloc (.cells #[.slice x.A s.rows.length x.a, .slice x.R s.sp.refs.length x.r, .slice x.L s.sp.last.length x.l, .int .i64 s.txg, .slice x.G s.gone.length x.g, .int .i64 s.keep, .slice x.D s.dead.length x.d, .bool s.same] 28)).alloc (.cells #[.slice none 0 0, .slice none 0 0, .slice none 0 0, .int .i64 0, .slice none 0 0, .int .i64 0, .slice none 0 0, .bool false] 28) := ⟨_, rfl⟩
      rw [← hW0] at a c BB sz hO ⊢
      clear hW0
      replace sz := Nat.le_of_eq sz.symm
      obtain ⟨x0, x1, x2, x3, x4, x5, x6, x7⟩ := a.cells
      go_wp2_with (go_at_call 55; refine hO.mono ?_; rintro r w1 ⟨rfl, hb1⟩; refine Hid.out ?_)
      refine Lib.hid ?_
      clear x0 x1 x2 x3 x4 x5 x6 x7 hO
      have a := a.below hb1
      have c := c.below hb1
      have BB := bel_then BB hb1
      have s1 := Nat.le_trans sz hb1.size
      obtain ⟨x0, x1, x2, x3, x4, x5, x6, x7⟩ := a.cells
      obtain ⟨z0, z1, z2, z3, z4, z5, z6, z7⟩ := c.cells
      obtain ⟨f0, f1, f2, f3, f4, f5, f6, f7⟩ := c.fro
      go_wp2_with fail
      obtain ⟨q0, q1, q2, q3, q4, q5, q6, q7⟩ := (set8_box (u0 := .slice none 0 0) (u1 := .slice none 0 0) (u2 := .slice none 0 0) (u3 := .int .i64 0) (u4 := .slice none 0 0) (u5 := .int .i64 0) (u6 := .slice none 0 0) (u7 := .bool false) c).cells
      exact bodyPost_ret (v := .tuple #[.agg #[.slice none 0 0, .slice none 0 0, .slice none 0 0, .int .i64 0, .slice none 0 0, .int .i64 0, .slice none 0 0, .bool false], .bool false]) (by simp [results, Try.f29, go_sem, q0, q1, q2, q3, q4, q5, q6, q7]) rfl ⟨SA.none, rfl, own_none _ _ _, set8_bel (u0 := .slice none 0 0) (u1 := .slice none 0 0) (u2 := .slice none 0 0) (u3 := .int .i64 0) (u4 := .slice none 0 0) (u5 := .int .i64 0) (u6 := .slice none 0 0) (u7 := .bool false) BB (by omega)⟩
  · rw [okSt_no hok] at hO
    rw [nextS_no (fun h => hok h.1), nextB_no (fun h => hok h.1)]
    clear hs hA hok
    go_enter Try.func29, Try.ntmps29
    go_upto_region 1 with fail
    obtain ⟨W0, hW0⟩ : ∃ W, W = (w.alloc (.cells #[.slice x.A s.rows.length x.a, .slice x.R s.sp.refs.length x.r, .slice x.L s.sp.last.length x.l, .int .i64 s.txg, .slice x.G s.gone.length x.g, .int .i64 s.keep, .slice x.D s.dead.length x.d, .bool s.same] 28)).alloc (.cells #[.slice none 0 0, .slice none 0 0, .slice none 0 0, .int .i64 0, .slice none 0 0, .int .i64 0, .slice none 0 0, .bool false] 28) := ⟨_, rfl⟩
    rw [← hW0] at a c BB sz hO ⊢
    clear hW0
    replace sz := Nat.le_of_eq sz.symm
    obtain ⟨x0, x1, x2, x3, x4, x5, x6, x7⟩ := a.cells
    go_wp2_with (go_at_call 55; refine hO.mono ?_; rintro r w1 ⟨rfl, hb1⟩; refine Hid.out ?_)
    refine Lib.hid ?_
    clear x0 x1 x2 x3 x4 x5 x6 x7 hO
    have a := a.below hb1
    have c := c.below hb1
    have BB := bel_then BB hb1
    have s1 := Nat.le_trans sz hb1.size
    obtain ⟨x0, x1, x2, x3, x4, x5, x6, x7⟩ := a.cells
    obtain ⟨z0, z1, z2, z3, z4, z5, z6, z7⟩ := c.cells
    obtain ⟨f0, f1, f2, f3, f4, f5, f6, f7⟩ := c.fro
    go_wp2_with fail
    obtain ⟨q0, q1, q2, q3, q4, q5, q6, q7⟩ := (set8_box (u0 := .slice none 0 0) (u1 := .slice none 0 0) (u2 := .slice none 0 0) (u3 := .int .i64 0) (u4 := .slice none 0 0) (u5 := .int .i64 0) (u6 := .slice none 0 0) (u7 := .bool false) c).cells
    exact bodyPost_ret (v := .tuple #[.agg #[.slice none 0 0, .slice none 0 0, .slice none 0 0, .int .i64 0, .slice none 0 0, .int .i64 0, .slice none 0 0, .bool false], .bool false]) (by simp [results, Try.f29, go_sem, q0, q1, q2, q3, q4, q5, q6, q7]) rfl ⟨SA.none, rfl, own_none _ _ _, set8_bel (u0 := .slice none 0 0) (u1 := .slice none 0 0) (u2 := .slice none 0 0) (u3 := .int .i64 0) (u4 := .slice none 0 0) (u5 := .int .i64 0) (u6 := .slice none 0 0) (u7 := .bool false) BB (by omega)⟩
end Go.Proofs.Ytmnamclndpfjnaa
