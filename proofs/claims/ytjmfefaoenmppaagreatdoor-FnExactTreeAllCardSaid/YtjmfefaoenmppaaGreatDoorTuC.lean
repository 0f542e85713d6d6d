/-
  The pointers of all places of a tree, as the specification reads them, level by level; with the room of their row.
-/
import Derived.Test.YtjmfefaoenmppaaGreatDoorKJ
namespace Go.Proofs.YtjmfefaoenmppaaGreatDoor
open Go.RowKit

/-- A list of pointers is returned, in a row made since that has so many cells at least, or none. -/
def BlPostC (o : Option (List P5)) (w : World) (e : Ending) (w' : World) : Prop := Below w.heap.size w w' ∧
  match o with
  | none => ∃ (A : Option Addr) (c : Nat), e = .returned (.tuple #[.slice A 0 c, .bool false])
  | some qs => ∃ g c : Nat, e = .returned (.tuple #[.slice (some ⟨g, 0, none⟩) qs.length c, .bool true]) ∧ w.heap.size ≤ g ∧ PtrsAt w' g qs ∧ qs.length ≤ c
theorem own_cap {w : World} {base : Nat} {t : TypeId} {sz n m c g : Nat} {xs : List Value} (h : w.ownsRow base t sz (.slice (some ⟨g, 0, none⟩) m c) n xs) : n ≤ c := by
  rcases h.2 with ⟨e, _⟩ | ⟨g', cap, cur, e, _, _, hc, _⟩
  · cases e
  · cases e
    exact hc

set_option maxRecDepth 100000 in
set_option maxHeartbeats 8000000 in
theorem spec_leavesC (x : SA) (s : St) (a b c d e dep many : Int) (D : Nat) (w : World) (hok : StOk s) (ht : ∀ t ∈ s.rows, t.size ≤ maxLen) (hA : StAt w x s) (hp : isOk a b c d e = true) (hD : D ≤ 2) (hdep : dep = (D : Int)) :
    Calls Tryz.prog 49 #[.agg #[.slice x.A s.rows.length x.a, .slice x.R s.sp.refs.length x.r, .slice x.L s.sp.last.length x.l, .int .i64 s.txg, .slice x.G s.gone.length x.g, .int .i64 s.keep, .slice x.D s.dead.length x.d, .bool s.same], .agg #[.int .i64 a, .int .i64 b, .int .i64 c, .int .i64 d, .int .i64 e, .int .i64 dep, .int .i64 many]] w (BlPostC (levS s D [⟨a, b, c, d, e⟩]) w) := by
  obtain ⟨i0, hi, hz0, hz1, hz2⟩ := info_parts Tryz.info40
  have c0 := (B8.new w 38 (.slice x.A s.rows.length x.a) (.slice x.R s.sp.refs.length x.r) (.slice x.L s.sp.last.length x.l) (.int .i64 s.txg) (.slice x.G s.gone.length x.g) (.int .i64 s.keep) (.slice x.D s.dead.length x.d) (.bool s.same)).alloc (.cells #[.int .i64 a, .int .i64 b, .int .i64 c, .int .i64 d, .int .i64 e, .int .i64 dep, .int .i64 many] 42)
  have t0 := B7.new (w.alloc (.cells #[.slice x.A s.rows.length x.a, .slice x.R s.sp.refs.length x.r, .slice x.L s.sp.last.length x.l, .int .i64 s.txg, .slice x.G s.gone.length x.g, .int .i64 s.keep, .slice x.D s.dead.length x.d, .bool s.same] 38)) a b c d e dep many 42
  have BB : Below w.heap.size w ((w.alloc (.cells #[.slice x.A s.rows.length x.a, .slice x.R s.sp.refs.length x.r, .slice x.L s.sp.last.length x.l, .int .i64 s.txg, .slice x.G s.gone.length x.g, .int .i64 s.keep, .slice x.D s.dead.length x.d, .bool s.same] 38)).alloc (.cells #[.int .i64 a, .int .i64 b, .int .i64 c, .int .i64 d, .int .i64 e, .int .i64 dep, .int .i64 many] 42)) := bel_new (bel_new (Below.refl _ _) _) _
  rw [World.size_alloc] at t0
  have s0 : ((w.alloc (.cells #[.slice x.A s.rows.length x.a, .slice x.R s.sp.refs.length x.r, .slice x.L s.sp.last.length x.l, .int .i64 s.txg, .slice x.G s.gone.length x.g, .int .i64 s.keep, .slice x.D s.dead.length x.d, .bool s.same] 38)).alloc (.cells #[.int .i64 a, .int .i64 b, .int .i64 c, .int .i64 d, .int .i64 e, .int .i64 dep, .int .i64 many] 42)).heap.size = w.heap.size + 1 + 1 := by rw [World.size_alloc, World.size_alloc]
  obtain ⟨R, hR⟩ : ∃ R, R = levS s D [⟨a, b, c, d, e⟩] := ⟨_, rfl⟩
  rw [← hR]
  have HR := Lib.hid hR
  have HD := Lib.hid hdep
  have hC := fun (p : P5) (l : Nat) W (hW : Below w.heap.size w W) (hpk : p.ok = true) => spec_below x s p.a p.b p.c p.d p.e l W hok ht (hA.below hW) hpk
  clear hR hdep hok ht hA
  go_enter Tryz.func49, Tryz.ntmps49
  go_upto_region 1 with fail
  generalize hW0 : (w.alloc (.cells #[.slice x.A s.rows.length x.a, .slice x.R s.sp.refs.length x.r, .slice x.L s.sp.last.length x.l, .int .i64 s.txg, .slice x.G s.gone.length x.g, .int .i64 s.keep, .slice x.D s.dead.length x.d, .bool s.same] 38)).alloc (.cells #[.int .i64 a, .int .i64 b, .int .i64 c, .int .i64 d, .int .i64 e, .int .i64 dep, .int .i64 many] 42) = W0 at c0 t0 BB s0
  clear hW0
  have S0 := Lib.hid s0
  clear s0
  obtain ⟨y0, y1, y2, y3, y4, y5, y6⟩ := t0.cells
  have o1 := World.ownsRow_lit (e := 40) (size := 5) (base := W0.heap.size) W0 #[.int .i64 a, .int .i64 b, .int .i64 c, .int .i64 d, .int .i64 e] 1 (Nat.le_refl _) (by decide) rfl
  have P1 : PtrsAt (W0.alloc (.cells #[.int .i64 a, .int .i64 b, .int .i64 c, .int .i64 d, .int .i64 e] 40)) W0.heap.size [⟨a, b, c, d, e⟩] := (ptrsAt_own (ps := [(⟨a, b, c, d, e⟩ : P5)]) o1).2
  have B1 := bel_new (Below.refl W0.heap.size W0) (.cells #[.int .i64 a, .int .i64 b, .int .i64 c, .int .i64 d, .int .i64 e] 40)
  have t1 := t0.below B1
  clear o1
  go_upto_region 2 with fail
  generalize hW1 : W0.alloc (.cells #[.int .i64 a, .int .i64 b, .int .i64 c, .int .i64 d, .int .i64 e] 40) = W1 at P1 B1 t1
  clear hW1 y0 y1 y2 y3 y4 y5 y6
  obtain ⟨y0, y1, y2, y3, y4, y5, y6⟩ := t1.cells
  rw [HD.out] at y5
  go_wp2_with fail
  go_loopg [6, 7] D (fun gh lst lev wr => ∃ (dd : Nat) (ps : List P5) (g cc : Nat), gh = dd ∧ dd ≤ D ∧ lev = .int .i64 dd ∧ lst = .slice (some ⟨g, 0, none⟩) ps.length cc ∧ w.heap.size ≤ g ∧ PtrsAt wr g ps ∧ ps.length ≤ cc ∧ (∀ p ∈ ps, p.ok = true) ∧ ps.length * 4 ^ dd ≤ 16 ∧ levS s dd ps = R ∧ Below W0.heap.size W0 wr)
  case atStart => exact ⟨D, [⟨a, b, c, d, e⟩], W0.heap.size, 1, rfl, Nat.le_refl _, rfl, rfl, by have := S0.out; omega, P1, by simp, fun p hm => by rw [List.mem_singleton.1 hm]; exact hp, by rcases (show D = 0 ∨ D = 1 ∨ D = 2 by omega) with h | h | h <;> rw [h] <;> simp, HR.out.symm, B1⟩
  case round =>
    clear P1 B1 t1 y0 y1 y2 y3 y4 y5 y6
    obtain ⟨dd, ps, g, cc, hg, hdd, rfl, rfl, hwg, hP, hcap, hpk, hcnt, hlev, hb⟩ := hrel
    have HG := Lib.hid hg
    clear hg
    cases dd with
    | zero =>
      have HF : Hid (BlPostC R w (.returned (.tuple #[.slice (some ⟨g, 0, none⟩) ps.length cc, .bool true])) wr) := Lib.hid ⟨bel_then BB hb, by rw [← hlev]; exact ⟨g, cc, rfl, hwg, hP, hcap⟩⟩
      clear hlev hP hC
      go_wp2_with fail
      go_ret2
      exact HF.out
    | succ d1 =>
      obtain ⟨wo, hwo⟩ : ∃ W : World, W = wr := ⟨_, rfl⟩
      subst hwo
      have hd0 : (0 : Int) < ((d1 + 1 : Nat) : Int) := by omega
      have hl16 : ps.length ≤ 16 := by
        have : 1 ≤ 4 ^ (d1 + 1) := Nat.one_le_pow _ _ (by decide)
        have h2 := Nat.mul_le_mul_left ps.length this
        omega
      have o1 := World.ownsRow_made (e := 40) (base := wo.heap.size) wo (size := 5) #[] 0 (Nat.le_refl _) (by decide) rfl
      have Bn := bel_new (Below.refl wo.heap.size wo) (.cells #[] 40)
      go_wp2_with fail
      go_loopg [8, 9] ps.length (fun gh v i wr => ∃ (j g2 c2 : Nat) (acc : List P5), gh = ps.length - j ∧ j ≤ ps.length ∧ i = .int .i64 j ∧ v = .slice (some ⟨g2, 0, none⟩) acc.length c2 ∧ wr.ownsRow wo.heap.size 40 5 (.slice (some ⟨g2, 0, none⟩) acc.length c2) acc.length (flat acc) ∧ brAll (fun p => belS s p (d1 + 1)) (ps.take j) = some acc ∧ (∀ p ∈ acc, p.ok = true) ∧ acc.length = 4 * j ∧ Below wo.heap.size wo wr)
      case atStart => exact ⟨0, wo.heap.size, 0, [], by omega, by omega, rfl, rfl, o1, rfl, by simp, rfl, Bn⟩
      case round =>
        clear o1 Bn
        obtain ⟨j, g2, c2, acc, hg2, hj, rfl, rfl, ho, hacc, hak, hal, hx⟩ := hrel
        have HG2 := Lib.hid hg2
        clear hg2
        have sx := hx.size
        have sr := hb.size
        by_cases hlt : j < ps.length
        · have hlt' : (j : Int) < (ps.length : Int) := by omega
          obtain ⟨⟨pa, pb, pc, pd, pe⟩, hpj⟩ : ∃ r, ps[j] = r := ⟨_, rfl⟩
          have hpo : isOk pa pb pc pd pe = true := by have := hpk _ (List.getElem_mem hlt); rw [hpj] at this; exact this
          obtain ⟨u0, u1, u2, u3, u4⟩ := (hP.below hx.drew).cell j hlt hpj
          obtain ⟨x0, x1, x2, x3, x4, x5, x6, x7⟩ := ((c0.below hb).below hx.drew).cells
          have hCC := hC ⟨pa, pb, pc, pd, pe⟩ (d1 + 1) wr.drew (bel_then (bel_then BB hb) hx.drew) hpo
          have HP := Lib.hid hpj
          have Bx := bel_then (bel_then BB hb) hx
          cases hbl : belS s ⟨pa, pb, pc, pd, pe⟩ (d1 + 1) with
          | none =>
            rw [hbl] at hCC
            have hC2 : Calls Tryz.prog 80 #[.agg #[.slice x.A s.rows.length x.a, .slice x.R s.sp.refs.length x.r, .slice x.L s.sp.last.length x.l, .int .i64 s.txg, .slice x.G s.gone.length x.g, .int .i64 s.keep, .slice x.D s.dead.length x.d, .bool s.same], .agg #[.int .i64 pa, .int .i64 pb, .int .i64 pc, .int .i64 pd, .int .i64 pe], .int .i64 ((d1 + 1 : Nat) : Int)] wr.drew fun r w' => ∃ (A : Option Addr) (c3 : Nat), r = .returned (.tuple #[.slice A 0 c3, .bool false]) ∧ Below wr.drew.heap.size wr.drew w' := hCC.mono fun r w' h => by obtain ⟨h1, A, c3, h2⟩ := h; exact ⟨A, c3, h2, h1⟩
            have HN : Hid (R = none) := Lib.hid (by
              rw [← hlev]
              show (expS s (d1 + 1) ps).bind _ = none
              unfold expS
              rw [brAll_none (List.getElem_mem hlt) (by rw [HP.out]; exact hbl)]
              rfl)
            clear hCC hbl hC hlev hacc hak hal hpk hP hcnt hpj
            go_upto_region 9 with fail
            first
              | go_region_with (go_at_call 80; refine hC2.mono ?_; rintro r w2 ⟨A2, c3, rfl, hb2⟩)
              | fail "region"
            all_goals go_wp2_with fail
            all_goals go_ret2
            all_goals rw [HN.out]
            all_goals exact ⟨bel_new (bel_then Bx.drew hb2) _, _, _, rfl⟩
          | some qs =>
            rw [hbl] at hCC
            obtain ⟨hq4, hqo⟩ := belS_some hbl
            have hC2 : Calls Tryz.prog 80 #[.agg #[.slice x.A s.rows.length x.a, .slice x.R s.sp.refs.length x.r, .slice x.L s.sp.last.length x.l, .int .i64 s.txg, .slice x.G s.gone.length x.g, .int .i64 s.keep, .slice x.D s.dead.length x.d, .bool s.same], .agg #[.int .i64 pa, .int .i64 pb, .int .i64 pc, .int .i64 pd, .int .i64 pe], .int .i64 ((d1 + 1 : Nat) : Int)] wr.drew fun r w' => ∃ g3 c3 : Nat, r = .returned (.tuple #[.slice (some ⟨g3, 0, none⟩) 4 c3, .bool true]) ∧ Below wr.drew.heap.size wr.drew w' ∧ PtrsAt w' g3 qs := hCC.mono fun r w' h => by obtain ⟨h1, g3, c3, h2, h3, h4⟩ := h; exact ⟨g3, c3, by rw [h2, hq4], h1, h4⟩
            have HA : Hid (brAll (fun p => belS s p (d1 + 1)) (ps.take (j + 1)) = some (acc ++ qs)) := Lib.hid (by
              rw [List.take_succ_eq_append_getElem hlt, brAll_append, hacc, HP.out, brAll_one, hbl, both_some])
            have HK : Hid (∀ p ∈ acc ++ qs, p.ok = true) := Lib.hid (fun p hp => (List.mem_append.1 hp).elim (hak p) (hqo p))
            have HL : Hid ((acc ++ qs).length = 4 * (j + 1) ∧ acc.length + 4 = (acc ++ qs).length ∧ qs.length = 4 ∧ acc.length ≤ 64) := Lib.hid (by rw [List.length_append, hal, hq4]; omega)
            have hod := own_bel ho (Below.refl _ wr).drew
            clear hCC hbl hC hlev hacc hak hal hpk hP hcnt hqo hq4 hpj
            generalize hAL : acc.length = al at hod
            have HAL := Lib.hid hAL
            clear hAL ho
            go_upto_region 9 with fail
            first
              | go_region_with (go_at_call 80; refine hC2.mono ?_; rintro r w2 ⟨g3, c3, rfl, hb2, hP3⟩)
              | fail "region"
            all_goals (
              have ho2 := own_bel hod hb2
              have hL3 := ptrsAt_lies hP3
              have B2 := bel_then hx.drew hb2
              have s2 := B2.size
              go_wp2_with (at_builtin; refine wpList_append_lies2 _ rfl _ _ 36 rfl wo.heap.size 40 i0 (.agg #[.int .i64 0, .int .i64 0, .int .i64 0, .int .i64 0, .int .i64 0]) 5 40 Tryz.underlying36 hi hz0 hz1 hz2 rfl (by decide) _ _ _ rfl ho2 (some ⟨g3, 0, none⟩) 4 c3 (flat qs) rfl (by rw [flat_len, HL.out.2.2.1]) hL3 (flat_one qs) (by have := HL.out; have := HAL.out; unfold maxLen; omega) (by have := HL.out; have := HAL.out; omega) s2 ?_)
              intro v' w4 hown hgrow
              have R4 : w4.ownsRow wo.heap.size 40 5 v' (acc ++ qs).length (flat (acc ++ qs)) := by rw [flat_app, ← HL.out.2.1, HAL.out]; exact hown
              have B4 := Fx.bel_row5 B2 ho2 (Nat.le_refl _) hgrow
              obtain ⟨g4, c4, rfl⟩ := Fx.own_form5 R4 (by have := HL.out; omega)
              clear hown hgrow ho2 hod hL3 hP3 B2
              go_wp2_with fail
              go_roundg (ps.length - (j + 1))
              case measure => have := HG2.out; omega
              case rel => exact ⟨j + 1, g4, c4, acc ++ qs, rfl, by omega, by go_num, rfl, R4, HA.out, HK.out, HL.out.1, B4⟩)
        · obtain rfl : j = ps.length := by omega
          rw [List.take_length] at hacc
          obtain ⟨h1, h2⟩ := ptrsAt_own ho
          have hc2 := own_cap ho
          have HF : Hid (levS s d1 acc = R ∧ acc.length * 4 ^ d1 ≤ 16 ∧ w.heap.size ≤ g2) := Lib.hid ⟨by
            rw [← hlev]
            show _ = (expS s (d1 + 1) ps).bind _
            unfold expS
            rw [hacc]
            rfl, by rw [hal]; rw [Nat.pow_succ] at hcnt; rw [Nat.mul_comm 4, Nat.mul_assoc, Nat.mul_comm 4]; exact hcnt, by have := (bel_then BB hb).size; omega⟩
          have HK := Lib.hid hak
          clear hlev hacc hal hC hpk hP hcnt ho hak
          go_wp2_with fail
          go_roundg d1
          case measure => have := HG.out; omega
          case rel => exact ⟨d1, acc, g2, c2, rfl, by omega, by go_num, rfl, HF.out.2.2, h2, hc2, HK.out, HF.out.2.1, HF.out.1, bel_then hb hx⟩
end Go.Proofs.YtjmfefaoenmppaaGreatDoor
