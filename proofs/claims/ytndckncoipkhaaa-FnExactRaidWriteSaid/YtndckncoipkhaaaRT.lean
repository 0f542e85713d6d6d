/-
  Sets of disks: their weight, a law's copy of one, whether two are equal.
-/
import Derived.Test.YtndckncoipkhaaaRM
namespace Go.Proofs.Ytndckncoipkhaaa
open Go.RowKit

/-- What a set of disks weighs. -/
def wtR : List Dk → Nat
  | [] => 0
  | d :: R => d.cells.length + d.waits.length + wtR R
theorem wtR_app (a b : List Dk) : wtR (a ++ b) = wtR a + wtR b := by
  induction a with
  | nil => simp [wtR]
  | cons d a ih =>
    show d.cells.length + d.waits.length + wtR (a ++ b) = d.cells.length + d.waits.length + wtR a + wtR b
    omega
theorem wtR_mem {R : List Dk} {d : Dk} (h : d ∈ R) : d.cells.length + d.waits.length ≤ wtR R := by
  induction R with
  | nil => cases h
  | cons x R ih =>
    unfold wtR
    rcases List.mem_cons.1 h with rfl | h
    · omega
    · have := ih h
      omega
theorem dks_take (ps : List RD) (k : Nat) : dks (ps.take k) = (dks ps).take k := by simp [dks]
theorem wtR_take {ps : List RD} {k : Nat} (h : k < ps.length) : wtR (dks (ps.take (k + 1))) = wtR (dks (ps.take k)) + (ps[k].d.cells.length + ps[k].d.waits.length) := by
  rw [List.take_succ_eq_append_getElem h]
  show wtR (List.map RD.d (_ ++ [_])) = wtR (List.map RD.d _) + _
  rw [List.map_append, wtR_app]
  simp [wtR]
/-- A disk of a size that a machine can hold. -/
structure Fits (d : Dk) : Prop where
  cells : d.cells.length ≤ maxLen
  texts : ∀ s ∈ d.cells, s.size ≤ maxLen
  waits : d.waits.length ≤ maxLen
  wtexts : ∀ x ∈ d.waits, x.text.size ≤ maxLen
theorem Fits.bulk {d : Dk} (h : Fits d) (h1 : d.cells.length ≤ 1048576) (h2 : d.waits.length ≤ 1048576) : Bulk d := ⟨h1, h2, h.texts, h.wtexts⟩

set_option maxRecDepth 100000 in
set_option maxHeartbeats 2000000 in
theorem sz_disks (A : Option Addr) (cap : Nat) (ps : List RD) (L : Int) (w : World) (hL0 : 0 ≤ L) (hL : L ≤ 1048576) (hn : ps.length ≤ maxLen) (hf : ∀ p ∈ ps, Fits p.d) (hA : RAt w A ps) :
    Calls Try.prog 43 #[.slice A ps.length cap, .int .i64 L] w (SzPost (ps.length + wtR (dks ps)) L w) := by
  unfold maxLen at hn
  by_cases h0 : L < (ps.length : Int)
  · have h0' : L - (ps.length : Int) < 0 := by omega
    go_enter Try.func43, Try.ntmps43
    go_wp2
    go_ret
    exact ⟨_, rfl, Below.refl _ _, by intro h; omega⟩
  · have h0' : ¬ L - (ps.length : Int) < 0 := by omega
    go_enter Try.func43, Try.ntmps43
    go_wp2
    go_loopw [1, 5] (fun z i wr => ∃ (k : Nat) (u : Int), k ≤ ps.length ∧ i = .int .i64 k ∧ z = .int .i64 u ∧ 0 ≤ u ∧ ((ps.length + wtR (dks (ps.take k)) : Nat) : Int) ≤ L - u ∧ Below w.heap.size w wr) (fun _ i _ => ps.length - (intOf i).toNat)
    case atStart => exact ⟨0, L - ps.length, Nat.zero_le _, rfl, rfl, by omega, (by simp [dks, wtR]; omega), Below.refl _ _⟩
    case round =>
      obtain ⟨k, u, hk, rfl, rfl, hu, hle, hb⟩ := hrel
      by_cases hlt : k < ps.length
      · obtain ⟨b, off, rfl, hlb, z0, z1, z2, hd⟩ := (hA.below hb).cell k hlt
        have hfp := hf ps[k] (List.getElem_mem hlt)
        have hw := wtR_take hlt
        obtain ⟨P, hP⟩ : ∃ P, P = ps[k] := ⟨_, rfl⟩
        rw [← hP] at z0 z1 z2 hd hfp hw
        have hS := sz_disk P.a P.b P.c P.e P.d u wr hu (by omega) hfp.cells hfp.texts hfp.waits hfp.wtexts hd
        have HW := Lib.hid hw
        have HK := Lib.hid hlt
        clear hw hfp hd hP hA
        go_wp2_with (go_at_call 83; refine hS.mono ?_; rintro r w2 ⟨y, rfl, hb2, hy⟩; refine Hid.out ?_)
        refine Lib.hid ?_
        have hb3 := bel_then hb hb2
        by_cases hyy : y < 0
        · go_wp2_with fail
          go_ret
          exact ⟨_, rfl, hb3, by intro h; omega⟩
        · have hz := hy (by omega)
          go_wp2_with fail
          go_roundw
          case rel => exact ⟨k + 1, y, by omega, by go_num, rfl, by omega, by rw [HW.out]; omega, hb3⟩
          case measure => simp [intOf]; omega
      · have hke : k = ps.length := by omega
        subst hke
        rw [List.take_length] at hle
        go_wp2_with fail
        go_ret
        exact ⟨_, rfl, hb, fun _ => by omega⟩

/-- The box of a set of disks. -/
def B1 (W : World) (g : Nat) (t : TypeId) (x : Value) : Prop := W.heap[g]? = some (.cells #[x] t (0, 0))
theorem B1.new (w : World) (t : TypeId) (x : Value) : B1 (w.alloc (.cells #[x] t)) w.heap.size t x := heap_alloc_new w _
theorem B1.lt {W : World} {g : Nat} {t : TypeId} {x : Value} (h : B1 W g t x) : g < W.heap.size := (Array.getElem?_eq_some_iff.1 h).1
theorem B1.below {W W' : World} {g : Nat} {t : TypeId} {x : Value} (h : B1 W g t x) (hb : Below W.heap.size W W') : B1 W' g t x := (hb.block g h.lt).trans h
theorem B1.only {W W' : World} {lo hi g : Nat} {t : TypeId} {x : Value} (h : B1 W g t x) (hg : Only lo hi W W') (hn : ¬ (lo ≤ g ∧ g < hi)) : B1 W' g t x := (hg.block g h.lt hn).trans h
theorem B1.cells {W : World} {g : Nat} {t : TypeId} {x : Value} (h : B1 W g t x) : W.cell? ⟨g, 0, none⟩ = some x ∧ W.frozen? ⟨g, 0, none⟩ = false := by
  unfold B1 at h
  simp [World.cell?, World.frozen?, h]

set_option maxHeartbeats 1000000 in
theorem sz_raid (A : Option Addr) (cap : Nat) (ps : List RD) (L : Int) (w : World) (hL0 : 0 ≤ L) (hL : L ≤ 1048576) (hn : ps.length ≤ maxLen) (hf : ∀ p ∈ ps, Fits p.d) (hA : RAt w A ps) :
    Calls Try.prog 16 #[.agg #[.slice A ps.length cap], .int .i64 L] w (SzPost (ps.length + wtR (dks ps)) L w) := by
  have hS := fun W hW => sz_disks A cap ps L W hL0 hL hn hf (hA.below (W' := W) hW)
  clear hn hf hA
  go_enter Try.func16, Try.ntmps16
  go_wp2_with (go_at_call 43; refine (hS _ (bel_new (Below.refl _ _) _)).mono ?_; rintro r w2 ⟨z, rfl, hb2, hz⟩; refine Hid.out ?_)
  refine Lib.hid ?_
  have B2 := bel_then (bel_new (Below.refl _ _) _) hb2
  by_cases hzz : z < 0
  · go_wp2_with fail
    go_ret
    exact ⟨_, rfl, B2, by intro h; omega⟩
  · go_wp2_with fail
    go_ret
    exact ⟨_, rfl, B2, hz⟩

theorem Try.info60 : (Try.prog.info? 60).map (fun i => (i.zero, i.size, i.bytes)) = some (some (.agg #[.slice none 0 0, .slice none 0 0, .bool false]), 3, 56) := by kernel_rfl

theorem own_set3 {W : World} {base g n cap k : Nat} {ps : List RD} {R : List Value} (h : W.ownsRow base 60 3 (.slice (some ⟨g, 0, none⟩) n cap) n (trios ps ++ dz ++ R)) (hk : ps.length = k) (p : RD) :
    (((W.setCell ⟨g, k * 3, none⟩ (.slice p.a p.d.cells.length p.c)).setCell ⟨g, k * 3 + 1, none⟩ (.slice p.b p.d.waits.length p.e)).setCell ⟨g, k * 3 + 2, none⟩ (.bool p.d.gone)).ownsRow base 60 3 (.slice (some ⟨g, 0, none⟩) n cap) n (trios (ps ++ [p]) ++ R) := by
  have h3 := ((((h.stored (k * 3) (.slice p.a p.d.cells.length p.c)).1).stored (k * 3 + 1) (.slice p.b p.d.waits.length p.e)).1.stored (k * 3 + 2) (.bool p.d.gone)).1
  have hl : (trios ps).length = k * 3 := by rw [trios_len, hk]
  rw [show trios ps ++ dz ++ R = trios ps ++ (.slice none 0 0) :: (.slice none 0 0) :: (.bool false) :: R by simp [dz], set_three _ _ _ _ R _ _ _ (k * 3) hl] at h3
  rw [trios_app]
  simpa [trios, RD.trio] using h3
theorem own_cells3 {W : World} {base g n cap k : Nat} {ps : List RD} {R : List Value} (h : W.ownsRow base 60 3 (.slice (some ⟨g, 0, none⟩) n cap) n (trios ps ++ dz ++ R)) (hk : ps.length = k) (hn : k < n) :
    W.cell? ⟨g, k * 3, none⟩ = some (.slice none 0 0) ∧ W.cell? ⟨g, k * 3 + 1, none⟩ = some (.slice none 0 0) ∧ W.cell? ⟨g, k * 3 + 2, none⟩ = some (.bool false) := by
  have hl : (trios ps).length = k * 3 := by rw [trios_len, hk]
  have g0 : ∀ i v, i < 3 → dz[i]? = some v → W.cell? ⟨g, k * 3 + i, none⟩ = some v := fun i v hi hv => by
    rw [h.cellAt (k * 3 + i) (by omega), List.append_assoc, List.getElem?_append_right (by omega), hl, show k * 3 + i - k * 3 = i by omega, List.getElem?_append_left (by show i < 3; omega), hv]
  exact ⟨g0 0 _ (by decide) rfl, g0 1 _ (by decide) rfl, g0 2 _ (by decide) rfl⟩
theorem grown_set (W : World) (a : Addr) (u : Value) : W.grownBy (W.setCell a u) (some a.block) :=
  ⟨rfl, rfl, rfl, by simp [World.setCell], fun k _ hk => Below.heap_setCell _ _ _ k (fun e => hk (by rw [e]))⟩
theorem dks_more {ps : List RD} {k : Nat} (h : k < ps.length) : (dks ps).take (k + 1) = (dks ps).take k ++ [ps[k].d] := by
  rw [List.take_succ_eq_append_getElem (by rw [dks_len]; exact h)]
  simp [dks]

/-- A row of disks is returned. -/
def RowPost (R : List Dk) (w : World) (r : Ending) (w' : World) : Prop :=
  ∃ (ps : List RD) (A : Option Addr) (c : Nat), r = .returned (.slice A ps.length c) ∧ dks ps = R ∧ ROwn w' w.heap.size (.slice A ps.length c) ps ∧ Below w.heap.size w w'

set_option maxRecDepth 100000 in
set_option maxHeartbeats 4000000 in
theorem to_disks (A : Option Addr) (cap : Nat) (ps : List RD) (w : World) (hn : ps.length ≤ 1048576) (hf : ∀ p ∈ ps, Bulk p.d) (hA : RAt w A ps) :
    Calls Try.prog 45 #[.slice A ps.length cap] w (RowPost (dks ps) w) := by
  obtain ⟨i0, hi, hz0, hz1, hz2⟩ := info_parts Try.info60
  go_enter Try.func45, Try.ntmps45
  go_wp2_with (refine wpList_make_full _ rfl _ _ 22 rfl w.heap.size 60 i0 (.agg #[.slice none 0 0, .slice none 0 0, .bool false]) 3 Try.underlying22 hi hz0 hz1 _ _ _ _ ps.length rfl rfl rfl rfl (by rw [hz2]; omega) (by unfold maxLen; omega) (Nat.le_refl _) ?_; intro w1 hown hgrow; rw [made_disks] at hown)
  have hb1 : Below w.heap.size w w1 := (Below.refl _ _).grown hgrow (Nat.le_refl _) (fun k e => by cases e)
  have hg1 : w.heap.size < w1.heap.size := (hown.lt w.heap.size rfl).2
  clear hgrow
  go_loopw [4] (fun i wr => ∃ (k : Nat) (qs : List RD), k ≤ ps.length ∧ i = .int .i64 k ∧ qs.length = k ∧ dks qs = (dks ps).take k ∧ wr.ownsRow w.heap.size 60 3 (.slice (some ⟨w.heap.size, 0, none⟩) ps.length ps.length) ps.length (trios qs ++ dzeros (ps.length - k)) ∧ RIn wr w.heap.size wr.heap.size (some w.heap.size) qs ∧ Below w.heap.size w wr) (fun i _ => ps.length - (intOf i).toNat)
  case atStart => exact ⟨0, [], Nat.zero_le _, rfl, rfl, rfl, hown, RIn.nil _ _ _ _, hb1⟩
  case round =>
    obtain ⟨k, qs, hk, rfl, hql, hqd, ho, hR, hb⟩ := hrel
    clear hown hb1 hg1
    have HQ := Lib.hid hqd
    have HL := Lib.hid hql
    clear hqd hql
    by_cases hlt : k < ps.length
    · obtain ⟨b, off, rfl, hlb, z0, z1, z2, hd⟩ := (hA.below hb).cell k hlt
      have hfp := hf ps[k] (List.getElem_mem hlt)
      have hmore := dks_more hlt
      obtain ⟨P, hP⟩ : ∃ P, P = ps[k] := ⟨_, rfl⟩
      rw [← hP] at z0 z1 z2 hd hfp hmore
      obtain ⟨m, hm⟩ : ∃ m, ps.length - k = m + 1 := ⟨ps.length - k - 1, by omega⟩
      have hm1 : ps.length - (k + 1) = m := by omega
      rw [hm, dzeros_succ, ← List.append_assoc] at ho
      have hT := to_disk P.a P.b P.c P.e P.d wr hfp.cells hfp.waits hd
      have hlt0 := (ho.lt w.heap.size rfl).2
      have HM := Lib.hid hm1
      have HMO := Lib.hid hmore
      clear hm hm1 hmore hfp hd hP hA
      go_wp2_with (go_at_call 85; refine hT.mono ?_; rintro r w2 ⟨v, rfl, hv, hb2⟩; refine Hid.out ?_)
      refine Lib.hid ?_
      obtain ⟨A', c', B', e', rfl, _⟩ := hv.at_
      obtain ⟨q, hq⟩ : ∃ q : RD, q = ⟨A', c', B', e', P.d, wr.heap.size, w2.heap.size⟩ := ⟨_, rfl⟩
      have hqin : DkIn w2 q.l q.h q.val q.d := by rw [hq]; exact hv.in_
      have ho2 := own_bel ho hb2
      obtain ⟨y0, y1, y2⟩ := own_cells3 ho2 HL.out hlt
      have f0 := ho2.frozenAt (k * 3)
      have f1 := ho2.frozenAt (k * 3 + 1)
      have f2 := ho2.frozenAt (k * 3 + 2)
      have hset := own_set3 ho2 HL.out q
      have hR2 := (hR.below hb2).snoc (p := q) (top' := w2.heap.size) hqin (by rw [hq]; exact hb.size) (by rw [hq]; exact Nat.le_refl _) (by rw [hq]; exact hb2.size) (by rw [hq]; exact Nat.le_refl _) (fun k e => by cases e; rw [hq]; show ¬ (wr.heap.size ≤ w.heap.size ∧ _); omega)
      have hR3 := ((hR2.row (grown_set w2 ⟨w.heap.size, k * 3, none⟩ (.slice q.a q.d.cells.length q.c))).row (grown_set _ ⟨w.heap.size, k * 3 + 1, none⟩ (.slice q.b q.d.waits.length q.e))).row (grown_set _ ⟨w.heap.size, k * 3 + 2, none⟩ (.bool q.d.gone))
      have BB := (((bel_then hb hb2).setCell (p := ⟨w.heap.size, k * 3, none⟩) (Nat.le_refl _) (.slice q.a q.d.cells.length q.c)).setCell (p := ⟨w.heap.size, k * 3 + 1, none⟩) (Nat.le_refl _) (.slice q.b q.d.waits.length q.e)).setCell (p := ⟨w.heap.size, k * 3 + 2, none⟩) (Nat.le_refl _) (.bool q.d.gone)
      have HD : Hid (dks (qs ++ [q]) = (dks ps).take (k + 1)) := Lib.hid (by rw [HMO.out, ← HQ.out, hq]; simp [dks])
      have HLn : Hid ((qs ++ [q]).length = k + 1) := Lib.hid (by simp [HL.out])
      have e1 : q.a = A' ∧ q.c = c' ∧ q.b = B' ∧ q.e = e' ∧ q.d = P.d := by rw [hq]; exact ⟨rfl, rfl, rfl, rfl, rfl⟩
      simp only [e1.1, e1.2.1, e1.2.2.1, e1.2.2.2.1, e1.2.2.2.2] at hset hR3 BB
      have HS := Lib.hid hset
      have HR3 := Lib.hid hR3
      have HBB := Lib.hid BB
      clear hT hb2 hv hq hqin ho ho2 hset hR2 hR3 BB e1 hR
      go_wp2_with fail
      go_roundw
      case rel => exact ⟨k + 1, qs ++ [q], by omega, by go_num, HLn.out, HD.out, by rw [HM.out]; exact HS.out, by simpa using HR3.out, HBB.out⟩
      case measure => simp [intOf]; omega
    · have hke : k = ps.length := by omega
      subst hke
      rw [Nat.sub_self, show dzeros 0 = [] from rfl, List.append_nil, ← HL.out] at ho
      have HO := Lib.hid ho
      go_wp2_with fail
      go_ret
      refine ⟨qs, some ⟨w.heap.size, 0, none⟩, ps.length, (by rw [HL.out]; rfl), ?_, ⟨by have := HO.out; rwa [HL.out] at this ⊢, hR⟩, hb⟩
      rw [HQ.out, List.take_of_length_le (by rw [dks_len]; exact Nat.le_refl _)]
end Go.Proofs.Ytndckncoipkhaaa
