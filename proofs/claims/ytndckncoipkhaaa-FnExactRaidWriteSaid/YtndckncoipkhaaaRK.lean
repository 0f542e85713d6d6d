/-
  Sets of disks: the marks of a law.
-/
import Derived.Test.YtndckncoipkhaaaRE
namespace Go.Proofs.Ytndckncoipkhaaa
open Go.RowKit

/-- How many marks a set of disks takes. -/
def mkR : List Dk → Nat
  | [] => 0
  | d :: R => d.cells.length + 2 * d.waits.length + 1 + mkR R
theorem mkR_app (a b : List Dk) : mkR (a ++ b) = mkR a + mkR b := by
  induction a with
  | nil => simp [mkR]
  | cons d a ih =>
    show d.cells.length + 2 * d.waits.length + 1 + mkR (a ++ b) = d.cells.length + 2 * d.waits.length + 1 + mkR a + mkR b
    omega
theorem mkR_ge (R : List Dk) : R.length ≤ mkR R := by
  induction R with
  | nil => simp
  | cons d R ih =>
    unfold mkR
    rw [List.length_cons]
    omega
theorem mkR_le (R : List Dk) : mkR R ≤ 2 * wtR R + R.length := by
  induction R with
  | nil => simp [mkR, wtR]
  | cons d R ih =>
    unfold mkR wtR
    rw [List.length_cons]
    omega
theorem mkR_take {ps : List RD} {k : Nat} (h : k < ps.length) : mkR (dks (ps.take (k + 1))) = mkR (dks (ps.take k)) + (ps[k].d.cells.length + 2 * ps[k].d.waits.length + 1) := by
  rw [List.take_succ_eq_append_getElem h]
  show mkR (List.map RD.d (_ ++ [_])) = mkR (List.map RD.d _) + _
  rw [List.map_append, mkR_app]
  simp [mkR]
theorem mkR_takes (ps : List RD) (k : Nat) : mkR (dks (ps.take k)) ≤ mkR (dks ps) := by
  have h : dks ps = dks (ps.take k) ++ dks (ps.drop k) := by
    unfold dks
    rw [← List.map_append, List.take_append_drop]
  rw [h, mkR_app]
  omega
def goneM (k : Nat) (d : Dk) : Bool := (((k + d.cells.length + 2 * d.waits.length) % 3 : Nat) : Int) == 0
/-- A disk with its marks, from k on. -/
def markK (k : Nat) (d : Dk) : Dk := ⟨marks k d.cells.length, marksW (k + d.cells.length) d.waits.length, goneM k d⟩
def markRD (k : Nat) (p : RD) : RD := { p with d := markK k p.d }
def marksR : Nat → List RD → List RD
  | _, [] => []
  | k, p :: ps => markRD k p :: marksR (k + (p.d.cells.length + 2 * p.d.waits.length + 1)) ps
theorem marksR_len : ∀ (k : Nat) (ps : List RD), (marksR k ps).length = ps.length
  | _, [] => rfl
  | k, p :: ps => by
    show (marksR _ ps).length + 1 = _
    rw [marksR_len]
    rfl
theorem marksR_at : ∀ (k : Nat) (ps : List RD) (j : Nat) (h : j < ps.length), (marksR k ps)[j]'(by rw [marksR_len]; exact h) = markRD (k + mkR (dks (ps.take j))) ps[j]
  | k, p :: ps, 0, _ => by simp [marksR, dks, mkR]
  | k, p :: ps, j + 1, h => by
    have hj : j < ps.length := by simpa using h
    have ih := marksR_at (k + (p.d.cells.length + 2 * p.d.waits.length + 1)) ps j hj
    show (marksR _ ps)[j]'_ = markRD (k + mkR (p.d :: dks (ps.take j))) ps[j]
    rw [ih]
    congr 1
    show _ = k + (p.d.cells.length + 2 * p.d.waits.length + 1 + mkR (dks (ps.take j)))
    omega
theorem markK_len (k : Nat) (d : Dk) : (markK k d).cells.length = d.cells.length ∧ (markK k d).waits.length = d.waits.length := by simp [markK, marks_len, marksW_len]
def mixR (ps : List RD) (j : Nat) : List RD := (marksR 1 ps).take j ++ ps.drop j
theorem mixR_len (ps : List RD) {j : Nat} (h : j ≤ ps.length) : (mixR ps j).length = ps.length := by
  simp [mixR, marksR_len]
  omega
theorem mixR_zero (ps : List RD) : mixR ps 0 = ps := by simp [mixR]
theorem mixR_all (ps : List RD) : mixR ps ps.length = marksR 1 ps := by
  unfold mixR
  rw [List.drop_length, List.append_nil, List.take_of_length_le (by rw [marksR_len]; exact Nat.le_refl _)]
theorem mixR_at {ps : List RD} {j : Nat} (h : j < ps.length) : (mixR ps j)[j]'(by rw [mixR_len ps (by omega)]; exact h) = ps[j] := by
  unfold mixR
  rw [List.getElem_append_right (by simp [marksR_len]; omega)]
  simp [marksR_len, Nat.min_eq_left (Nat.le_of_lt h)]
theorem mixR_next {ps : List RD} {j : Nat} (h : j < ps.length) : (mixR ps j).set j (markRD (1 + mkR (dks (ps.take j))) ps[j]) = mixR ps (j + 1) := by
  unfold mixR
  have hl : ((marksR 1 ps).take j).length = j := by simp [marksR_len]; omega
  rw [List.set_append_right _ _ (by omega), hl, Nat.sub_self, List.drop_eq_getElem_cons h, List.set_cons_zero, List.take_succ_eq_append_getElem (by rw [marksR_len]; exact h), marksR_at 1 ps j h, List.append_assoc]
  rfl
theorem trios_gone : ∀ (ps : List RD) (j : Nat) (h : j < ps.length) (d : Dk), d.cells.length = ps[j].d.cells.length → d.waits.length = ps[j].d.waits.length → (trios ps).set (j * 3 + 2) (.bool d.gone) = trios (ps.set j { ps[j] with d := d })
  | p :: ps, 0, _, d, h1, h2 => by
    simp only [List.getElem_cons_zero] at h1 h2
    simp [trios, RD.trio, h1, h2]
  | p :: ps, j + 1, h, d, h1, h2 => by
    have ih := trios_gone ps j (by simpa using h) d (by simpa using h1) (by simpa using h2)
    show (RD.trio p ++ trios ps).set _ _ = RD.trio p ++ trios (ps.set j _)
    rw [List.set_append_right _ _ (by show 3 ≤ _; omega), show (j + 1) * 3 + 2 - (RD.trio p).length = j * 3 + 2 by show (j + 1) * 3 + 2 - 3 = _; omega, ih]
    rfl

/-- .. below a block. -/
def RBox (W : World) (base top : Nat) (u : Value) (ps : List RD) : Prop := (W.ownsRow base 60 3 u ps.length (trios ps) ∧ ∀ k, u.ownBlock = some k → k < top) ∧ RIn W base top u.ownBlock ps
theorem ROwn.box {W : World} {base : Nat} {u : Value} {ps : List RD} (h : ROwn W base u ps) : RBox W base W.heap.size u ps := ⟨⟨h.1, fun k hk => (h.1.lt k hk).2⟩, h.2⟩
theorem RBox.below {W W' : World} {base top : Nat} {u : Value} {ps : List RD} (h : RBox W base top u ps) (hb : Below W.heap.size W W') : RBox W' base top u ps := ⟨⟨own_bel h.1.1 hb, h.1.2⟩, h.2.below hb⟩
theorem RBox.only {W W' : World} {lo hi base top : Nat} {u : Value} {ps : List RD} (h : RBox W base top u ps) (hg : Only lo hi W W') (hn : hi ≤ base ∨ top ≤ lo) : RBox W' base top u ps :=
  ⟨⟨own_only h.1.1 hg (fun k hk => by have := (h.1.1.lt k hk).1; have := h.1.2 k hk; omega), h.1.2⟩, h.2.onlyOut hg hn⟩
theorem RBox.at_ {W : World} {base top n c : Nat} {A : Option Addr} {ps : List RD} (h : RBox W base top (.slice A n c) ps) : RAt W A ps := by
  obtain ⟨A', c', e, hl⟩ := own_lies h.1.1
  cases e
  refine ⟨fun h0 => ?_, fun p hp => (h.2.each p hp).1.at_⟩
  obtain ⟨b, off, e, hlt, hc⟩ := hl (by rw [trios_len]; omega)
  exact ⟨b, off, e, hlt, fun j hj k v hk hv => hc (j * 3 + k) v ((trios_at ps j k hj hk).trans hv)⟩

theorem own_goneAt {W : World} {base n c : Nat} {A : Option Addr} {xs : List Value} (h : W.ownsRow base 60 3 (.slice A n c) n xs) (hn : 0 < n) : ∃ g, A = some ⟨g, 0, none⟩ ∧ g < W.heap.size ∧ base ≤ g := by
  rcases h.2 with ⟨e, h0⟩ | ⟨g, cap, cur, e, hb, _⟩
  · omega
  · cases e
    exact ⟨g, rfl, (h.lt g rfl).2, hb⟩
theorem tmod3 (K : Nat) : (K : Int).tmod 3 = ((K % 3 : Nat) : Int) := by
  rw [Int.tmod_eq_emod_of_nonneg (by omega)]
  rfl

theorem Only.wide {lo hi lo' hi' : Nat} {a w : World} (h : Only lo hi a w) (h1 : lo' ≤ lo) (h2 : hi ≤ hi') : Only lo' hi' a w :=
  ⟨h.os, h.tape, h.output, h.size, fun k hk hn => h.block k hk (fun e => hn ⟨by omega, by omega⟩)⟩
set_option maxRecDepth 100000 in
set_option maxHeartbeats 4000000 in
theorem mark_disks (base top : Nat) (A : Option Addr) (c : Nat) (ps : List RD) (w : World) (hsz : mkR (dks ps) ≤ 4000000) (htop : top ≤ w.heap.size) (h : RBox w base top (.slice A ps.length c) ps) :
    Calls Try.prog 41 #[.slice A ps.length c, .int .i64 1] w fun r w' => r = .returned (.int .i64 ((1 + mkR (dks ps) : Nat) : Int)) ∧ RBox w' base top (.slice A ps.length c) (marksR 1 ps) ∧ Only base top w w' := by
  go_enter Try.func41, Try.ntmps41
  go_wp2
  go_loopw [1, 5] (fun kv i wr => ∃ j : Nat, j ≤ ps.length ∧ i = .int .i64 j ∧ kv = .int .i64 ((1 + mkR (dks (ps.take j)) : Nat) : Int) ∧ RBox wr base top (.slice A ps.length c) (mixR ps j) ∧ Only base top w wr) (fun _ i _ => ps.length - (intOf i).toNat)
  case atStart => exact ⟨0, Nat.zero_le _, rfl, rfl, by rw [mixR_zero]; exact h, Only.of_below (Below.refl _ _)⟩
  case round =>
    obtain ⟨j, hj, rfl, rfl, hr, hon⟩ := hrel
    clear h
    have hsw := hon.size
    by_cases hlt : j < ps.length
    · have hml := mixR_len ps hj
      have hjm : j < (mixR ps j).length := by omega
      have hpe := mixR_at hlt
      have ho := hr.1.1
      rw [hml] at ho
      obtain ⟨g, rfl, hg1, hg2⟩ := own_goneAt ho (by omega)
      have hgt : g < top := hr.1.2 g rfl
      obtain ⟨b0, o0, e0, _, y0, y1, y2, _⟩ := hr.at_.cell j hjm
      cases e0
      rw [hpe] at y0 y1 y2
      obtain ⟨hdk, h1, h2, h3, h4⟩ := hr.2.each _ (List.getElem_mem hjm)
      rw [hpe] at hdk h1 h2 h3 h4
      have hgn := h4 g rfl
      have hK := mkR_take hlt
      have hKt := mkR_takes ps (j + 1)
      obtain ⟨K, hKe⟩ : ∃ K, K = 1 + mkR (dks (ps.take j)) := ⟨_, rfl⟩
      have hnext := mixR_next hlt
      rw [← hKe] at hnext ⊢
      have hput := fun W' d (hlen : d.cells.length = (mixR ps j)[j].d.cells.length ∧ d.waits.length = (mixR ps j)[j].d.waits.length) ho hp => hr.2.put (W' := W') hjm (d := d) hlen ho hp
      have htg := trios_gone (mixR ps j) j hjm
      obtain ⟨P, hP⟩ : ∃ P, P = ps[j] := ⟨_, rfl⟩
      rw [hpe] at hput htg
      rw [← hP] at y0 y1 y2 hdk h1 h2 h3 h4 hgn hK hnext hput htg
      obtain ⟨t, u1, u2, hv, ht, ⟨q1, t1⟩, ⟨q2, t2⟩⟩ := hdk
      simp only [RD.val, Value.agg.injEq, Array.mk.injEq, List.cons.injEq, and_true] at hv
      obtain ⟨rfl, rfl⟩ := hv
      have hne := own_ne q1 q2 (by rcases ht with rfl | rfl <;> decide)
      have hne2 := own_ne q2 q1 (by rcases ht with rfl | rfl <;> decide)
      have r1 : ∀ k, (Value.slice P.a P.d.cells.length P.c).ownBlock = some k → P.l ≤ k ∧ k < P.h := fun k hk => ⟨(q1.lt k hk).1, t1 k hk⟩
      have r2 : ∀ k, (Value.slice P.b P.d.waits.length P.e).ownBlock = some k → P.l ≤ k ∧ k < P.h := fun k hk => ⟨(q2.lt k hk).1, t2 k hk⟩
      have hS := mark_strs P.l t P.a P.c P.d.cells K wr (by omega) (by omega) q1
      have hT := fun W hW => mark_waits P.l P.b P.e P.d.waits (K + P.d.cells.length) W (by omega) (by omega) hW
      have c1 : ((K + P.d.cells.length : Nat) : Int) = (K : Int) + (P.d.cells.length : Int) := by omega
      simp only [c1] at hT
      obtain ⟨G, hG⟩ : ∃ G : Nat, G = K + P.d.cells.length + 2 * P.d.waits.length := ⟨_, rfl⟩
      have c2 : (K : Int) + (P.d.cells.length : Int) + 2 * (P.d.waits.length : Int) = (G : Int) := by omega
      have c3 := tmod3 G
      have hpl := mkR_ge (dks ps)
      rw [dks_len] at hpl
      have hjb : j ≤ 4000000 := by omega
      have hGb : G ≤ 9000000 := by omega
      clear hpl
      have hgo : goneM K P.d = (((G % 3 : Nat) : Int) == 0) := by unfold goneM; rw [hG]
      obtain ⟨gb, hgb⟩ : ∃ gb, gb = goneM K P.d := ⟨_, rfl⟩
      rw [← hgb] at hgo
      have HGO := Lib.hid hgo
      have c4 : ((G : Int) % 3 == 0) = gb := hgo.symm
      have HGB := Lib.hid hgb
      have HK1 := Lib.hid (show 1 + mkR (dks (ps.take (j + 1))) = G + 1 by omega)
      have HPUT := Lib.hid hput
      have HTG := Lib.hid htg
      have HN := Lib.hid hnext
      have HO := Lib.hid ho
      have HR := Lib.hid hr
      have HML := Lib.hid hml
      have HON := Lib.hid hon
      have HG := Lib.hid hG
      have HNE := Lib.hid hne
      have HNE2 := Lib.hid hne2
      have HT := Lib.hid ht
      have y2f := ho.frozenAt (j * 3 + 2)
      clear hput htg hnext ho hr hml hon hG hgo hgb hK hKt hKe hP hpe c1 hne hne2 ht hsz
      simp only [Nat.zero_add] at y0 y1 y2
      go_wp2_with (go_at_call 79; refine hS.mono ?_; rintro r w2 ⟨rfl, m1, g1⟩; refine Hid.out ?_)
      refine Lib.hid ?_
      have n2 := q2.kept g1 HNE.out
      have hc2 : ∀ o, w2.cell? ⟨g, o, none⟩ = wr.cell? ⟨g, o, none⟩ := fun o => World.cell?_of_block (g1.block g hg1 (fun e => hgn (r1 g e.symm)))
      have hf2 : ∀ o, w2.frozen? ⟨g, o, none⟩ = wr.frozen? ⟨g, o, none⟩ := fun o => World.frozen?_of_block (g1.block g hg1 (fun e => hgn (r1 g e.symm)))
      have z1 := (hc2 (j * 3 + 1)).trans y1
      have hT2 := hT w2 n2
      have HC2 := Lib.hid hc2
      have HF2 := Lib.hid hf2
      have Y2 := Lib.hid y2
      clear hS hT y0 y1 y2 hc2 hf2
      go_wp2_with (go_at_call 80; refine hT2.mono ?_; rintro r w3 ⟨rfl, m2, g2⟩; refine Hid.out ?_)
      refine Lib.hid ?_
      have hs2 : g < w2.heap.size := Nat.lt_of_lt_of_le hg1 g1.size
      have z2 : w3.cell? ⟨g, j * 3 + 2, none⟩ = some (.bool P.d.gone) := (World.cell?_of_block (g2.block g hs2 (fun e => hgn (r2 g e.symm)))).trans ((HC2.out _).trans Y2.out)
      have zf : w3.frozen? ⟨g, j * 3 + 2, none⟩ = false := (World.frozen?_of_block (g2.block g hs2 (fun e => hgn (r2 g e.symm)))).trans ((HF2.out _).trans y2f)
      have m1' := m1.kept g2 HNE2.out
      have on3 : Only P.l P.h wr w3 := (Only.of_grown g1 r1).trans (Only.of_grown g2 r2)
      have HA := Lib.hid m1'
      have HB := Lib.hid m2
      have HON3 := Lib.hid on3
      have hg3 : g < w3.heap.size := Nat.lt_of_lt_of_le hs2 g2.size
      clear hT2 z1 n2 m1 m1' m2 g1 g2 q1 q2 on3 y2f
      go_wp2_with fail
      have fin : RBox (w3.setCell ⟨g, j * 3 + 2, none⟩ (.bool gb)) base top (.slice (some ⟨g, 0, none⟩) ps.length c) (mixR ps (j + 1)) ∧ Only base top w (w3.setCell ⟨g, j * 3 + 2, none⟩ (.bool gb)) := by
        have hl := markK_len K P.d
        have hp : DkIn w3 P.l P.h ({ P with d := markK K P.d } : RD).val (markK K P.d) := by
          refine ⟨t, .slice P.a P.d.cells.length P.c, .slice P.b P.d.waits.length P.e, ?_, HT.out, ⟨?_, fun k hk => (r1 k hk).2⟩, ⟨?_, fun k hk => (r2 k hk).2⟩⟩
          · simp only [RD.val, hl.1, hl.2]
          · rw [hl.1]; exact HA.out
          · rw [hl.2]; exact HB.out
        have hin := (HPUT.out w3 (markK K P.d) hl HON3.out hp).row (W' := w3.setCell ⟨g, j * 3 + 2, none⟩ (.bool gb)) (grown_set w3 ⟨g, j * 3 + 2, none⟩ (.bool gb))
        have hrow := ((own_only HO.out HON3.out (fun k e => by cases e; exact hgn)).stored (j * 3 + 2) (.bool gb)).1
        have htr := HTG.out (markK K P.d) hl.1 hl.2
        have hgone : (markK K P.d).gone = gb := HGB.out.symm
        rw [hgone] at htr
        rw [htr] at hrow
        have hnx : (mixR ps j).set j ({ P with d := markK K P.d } : RD) = mixR ps (j + 1) := HN.out
        rw [hnx] at hrow hin
        refine ⟨⟨⟨by rw [mixR_len ps (by omega)]; exact hrow, fun k e => by cases e; exact hgt⟩, hin⟩, (HON.out.trans (HON3.out.wide h1 h3)).trans (Only.of_grown (grown_set w3 ⟨g, j * 3 + 2, none⟩ (.bool gb)) (fun k e => by cases e; exact ⟨hg2, hgt⟩))⟩
      go_roundw
      case rel => exact ⟨j + 1, by omega, by go_num, by rw [HK1.out]; go_num, fin.1, fin.2⟩
      case measure => simp [intOf]; omega
    · have hke : j = ps.length := by omega
      subst hke
      rw [List.take_length]
      rw [mixR_all] at hr
      go_wp2_with fail
      go_ret
      exact ⟨rfl, hr, hon⟩

set_option maxRecDepth 100000 in
set_option maxHeartbeats 4000000 in
theorem held_disks (base top : Nat) (A : Option Addr) (c : Nat) (ps : List RD) (w : World) (hsz : mkR (dks ps) ≤ 4000000) (h : RBox w base top (.slice A ps.length c) (marksR 1 ps)) :
    Calls Try.prog 42 #[.slice A ps.length c, .int .i64 1] w fun r w' => r = .returned (.int .i64 ((1 + mkR (dks ps) : Nat) : Int)) ∧ Below w.heap.size w w' := by
  go_enter Try.func42, Try.ntmps42
  go_wp2
  go_loopw [1, 5] (fun kv i wr => ∃ j : Nat, j ≤ ps.length ∧ i = .int .i64 j ∧ kv = .int .i64 ((1 + mkR (dks (ps.take j)) : Nat) : Int) ∧ Below w.heap.size w wr) (fun _ i _ => ps.length - (intOf i).toNat)
  case atStart => exact ⟨0, Nat.zero_le _, rfl, rfl, Below.refl _ _⟩
  case round =>
    obtain ⟨j, hj, rfl, rfl, hb⟩ := hrel
    by_cases hlt : j < ps.length
    · have hr := h.below hb
      have hml := marksR_len 1 ps
      have hjm : j < (marksR 1 ps).length := by omega
      have hpe := marksR_at 1 ps j hlt
      obtain ⟨g, o0, rfl, hg1, y0, y1, y2, _⟩ := hr.at_.cell j hjm
      obtain ⟨hdk, _⟩ := hr.2.each _ (List.getElem_mem hjm)
      rw [hpe] at y0 y1 y2 hdk
      have hK := mkR_take hlt
      have hKt := mkR_takes ps (j + 1)
      have hpl := mkR_ge (dks ps)
      rw [dks_len] at hpl
      obtain ⟨K, hKe⟩ : ∃ K, K = 1 + mkR (dks (ps.take j)) := ⟨_, rfl⟩
      rw [← hKe] at y0 y1 y2 hdk ⊢
      obtain ⟨P, hP⟩ : ∃ P, P = ps[j] := ⟨_, rfl⟩
      rw [← hP] at y0 y1 y2 hdk hK
      have hl := markK_len K P.d
      obtain ⟨t, u1, u2, hv, ht, ⟨q1, _⟩, ⟨q2, _⟩⟩ := hdk
      simp only [RD.val, markRD, Value.agg.injEq, Array.mk.injEq, List.cons.injEq, and_true] at hv
      obtain ⟨rfl, rfl⟩ := hv
      simp only [markRD] at y0 y1 y2 q1 q2
      rw [hl.1] at y0 q1
      rw [hl.2] at y1 q2
      have hS := held_strs P.l t P.a P.c P.d.cells.length K wr (by omega) (by omega) q1
      have hT := fun W hW => held_waits P.l P.b P.e P.d.waits.length (K + P.d.cells.length) W (by omega) (by omega) (own_bel (w' := W) q2 hW)
      have c1 : ((K + P.d.cells.length : Nat) : Int) = (K : Int) + (P.d.cells.length : Int) := by omega
      simp only [c1] at hT
      obtain ⟨G, hG⟩ : ∃ G : Nat, G = K + P.d.cells.length + 2 * P.d.waits.length := ⟨_, rfl⟩
      have c2 : (K : Int) + (P.d.cells.length : Int) + 2 * (P.d.waits.length : Int) = (G : Int) := by omega
      have hgo : (markK K P.d).gone = (((G % 3 : Nat) : Int) == 0) := by unfold markK goneM; rw [hG]
      obtain ⟨gb, hgb⟩ : ∃ gb, gb = (markK K P.d).gone := ⟨_, rfl⟩
      rw [← hgb] at hgo y2
      have c4 : ((G : Int) % 3 == 0) = gb := hgo.symm
      have c5 : (gb != gb) = false := by simp
      have nn1 : ¬ ((K : Int) + (P.d.cells.length : Int)) < 0 := by omega
      have nn2 : ¬ (G : Int) < 0 := by omega
      have hjb : j ≤ 4000000 := by omega
      have hGb : G ≤ 9000000 := by omega
      have HK1 := Lib.hid (show 1 + mkR (dks (ps.take (j + 1))) = G + 1 by omega)
      clear hK hKt hKe hpl hgo hgb hG hP hpe hl hml hr q1 q2 ht h c1 hsz
      go_wp2_with (go_at_call 81; refine hS.mono ?_; rintro r w2 ⟨rfl, hb2⟩; refine Hid.out ?_)
      refine Lib.hid ?_
      have z1 := (hb2.cell (p := ⟨g, o0 + j * 3 + 1, none⟩) hg1).trans y1
      have z2 := (hb2.cell (p := ⟨g, o0 + j * 3 + 2, none⟩) hg1).trans y2
      have hT2 := hT w2 hb2
      have hg2 : g < w2.heap.size := Nat.lt_of_lt_of_le hg1 hb2.size
      have hb3 := bel_then hb hb2
      clear hS hT y0 y1 y2 hb2
      go_wp2_with (go_at_call 82; refine hT2.mono ?_; rintro r w3 ⟨rfl, hb4⟩; refine Hid.out ?_)
      refine Lib.hid ?_
      have v2 := (hb4.cell (p := ⟨g, o0 + j * 3 + 2, none⟩) hg2).trans z2
      have hb5 := bel_then hb3 hb4
      clear hT2 z1 z2 hb4 hb3
      go_wp2_with fail
      go_roundw
      case rel => exact ⟨j + 1, by omega, by go_num, by rw [HK1.out]; go_num, hb5⟩
      case measure => simp [intOf]; omega
    · have hke : j = ps.length := by omega
      subst hke
      rw [List.take_length]
      go_wp2_with fail
      go_ret
      exact ⟨rfl, hb⟩

set_option maxHeartbeats 1000000 in
theorem mark_raid (base top : Nat) (A : Option Addr) (c : Nat) (ps : List RD) (w : World) (hsz : mkR (dks ps) ≤ 4000000) (htop : top ≤ w.heap.size) (h : RBox w base top (.slice A ps.length c) ps) :
    Calls Try.prog 14 #[.agg #[.slice A ps.length c], .int .i64 1] w fun r w' => r = .returned (.int .i64 ((1 + mkR (dks ps) : Nat) : Int)) ∧ RBox w' base top (.slice A ps.length c) (marksR 1 ps) ∧ Only base top w w' := by
  have bl : Below w.heap.size w (w.alloc (.cells #[.slice A ps.length c] 24)) := bel_new (Below.refl _ _) _
  have hM := mark_disks base top A c ps _ hsz (by rw [World.size_alloc]; omega) (h.below bl)
  obtain ⟨K, hK⟩ : ∃ K, K = 1 + mkR (dks ps) := ⟨_, rfl⟩
  rw [← hK] at hM ⊢
  clear hsz h hK htop
  go_enter Try.func14, Try.ntmps14
  go_wp2_with (go_at_call 41; refine hM.mono ?_; rintro r w2 ⟨rfl, hr, ho⟩)
  go_ret
  exact ⟨rfl, hr, (Only.of_below bl).trans ho⟩
set_option maxHeartbeats 1000000 in
theorem held_raid (base top : Nat) (A : Option Addr) (c : Nat) (ps : List RD) (w : World) (hsz : mkR (dks ps) ≤ 4000000) (h : RBox w base top (.slice A ps.length c) (marksR 1 ps)) :
    Calls Try.prog 15 #[.agg #[.slice A ps.length c], .int .i64 1] w fun r w' => r = .returned (.int .i64 ((1 + mkR (dks ps) : Nat) : Int)) ∧ Below w.heap.size w w' := by
  have bl : Below w.heap.size w (w.alloc (.cells #[.slice A ps.length c] 24)) := bel_new (Below.refl _ _) _
  have hM := held_disks base top A c ps _ hsz (h.below bl)
  obtain ⟨K, hK⟩ : ∃ K, K = 1 + mkR (dks ps) := ⟨_, rfl⟩
  rw [← hK] at hM ⊢
  have nn : ¬ (K : Int) < 0 := by omega
  clear hsz h hK
  go_enter Try.func15, Try.ntmps15
  go_wp2_with (go_at_call 42; refine hM.mono ?_; rintro r w2 ⟨rfl, hb2⟩)
  go_ret
  exact ⟨rfl, bel_then bl hb2⟩
end Go.Proofs.Ytndckncoipkhaaa
