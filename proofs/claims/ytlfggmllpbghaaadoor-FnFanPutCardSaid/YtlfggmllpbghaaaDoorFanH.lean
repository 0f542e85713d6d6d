/-
  FanGet, the program's: the pointers of an indirect block, or that a text is none.
-/
import Derived.Test.YtlfggmllpbghaaaDoorFanG
namespace Go.Proofs.YtlfggmllpbghaaaDoor
open Go.RowKit

theorem own_set5t {W : World} {t : TypeId} {base g n cap k : Nat} {ps : List P5} {R : List Value} (h : W.ownsRow base t 5 (.slice (some ⟨g, 0, none⟩) n cap) n (flat (ps.take k) ++ P5z ++ R)) (hk : k < ps.length) {a c d e f : Int} (hp : ps[k] = ⟨a, c, d, e, f⟩) :
    (((((W.setCell ⟨g, k * 5, none⟩ (.int .i64 a)).setCell ⟨g, k * 5 + 1, none⟩ (.int .i64 c)).setCell ⟨g, k * 5 + 2, none⟩ (.int .i64 d)).setCell ⟨g, k * 5 + 3, none⟩ (.int .i64 e)).setCell ⟨g, k * 5 + 4, none⟩ (.int .i64 f)).ownsRow base t 5 (.slice (some ⟨g, 0, none⟩) n cap) n (flat (ps.take (k + 1)) ++ R) := by
  have h5 := ((((((h.stored (k * 5) (.int .i64 a)).1).stored (k * 5 + 1) (.int .i64 c)).1).stored (k * 5 + 2) (.int .i64 d)).1.stored (k * 5 + 3) (.int .i64 e)).1.stored (k * 5 + 4) (.int .i64 f)
  have h6 := h5.1
  have hl : (flat (ps.take k)).length = k * 5 := by rw [flat_len, List.length_take]; omega
  rw [show flat (ps.take k) ++ P5z ++ R = flat (ps.take k) ++ (.int .i64 0) :: (.int .i64 0) :: (.int .i64 0) :: (.int .i64 0) :: (.int .i64 0) :: R by simp [P5z], set_five _ R (k * 5) hl] at h6
  rw [flat_more ps k hk, hp]
  simpa [P5.cells] using h6
theorem own_cells5t {W : World} {t : TypeId} {base g n cap k : Nat} {ps : List P5} {R : List Value} (h : W.ownsRow base t 5 (.slice (some ⟨g, 0, none⟩) n cap) n (flat (ps.take k) ++ P5z ++ R)) (hk : k < ps.length) (hn : k < n) :
    W.cell? ⟨g, k * 5, none⟩ = some (.int .i64 0) ∧ W.cell? ⟨g, k * 5 + 1, none⟩ = some (.int .i64 0) ∧ W.cell? ⟨g, k * 5 + 2, none⟩ = some (.int .i64 0) ∧ W.cell? ⟨g, k * 5 + 3, none⟩ = some (.int .i64 0) ∧ W.cell? ⟨g, k * 5 + 4, none⟩ = some (.int .i64 0) := by
  have hl : (flat (ps.take k)).length = k * 5 := by rw [flat_len, List.length_take]; omega
  have g0 : ∀ i, i < 5 → W.cell? ⟨g, k * 5 + i, none⟩ = some (.int .i64 0) := fun i hi => by
    rw [h.cellAt (k * 5 + i) (by omega), List.append_assoc, List.getElem?_append_right (by omega), hl, show k * 5 + i - k * 5 = i by omega]
    rcases (show i = 0 ∨ i = 1 ∨ i = 2 ∨ i = 3 ∨ i = 4 by omega) with rfl | rfl | rfl | rfl | rfl <;> rfl
  exact ⟨g0 0 (by decide), g0 1 (by decide), g0 2 (by decide), g0 3 (by decide), g0 4 (by decide)⟩
theorem own_range {W : World} {t : TypeId} {base g n cap : Nat} {xs : List Value} (h : W.ownsRow base t 5 (.slice (some ⟨g, 0, none⟩) n cap) n xs) : W.rangeAt g 0 xs := fun j v hv => by
  have hj : j < xs.length := (List.getElem?_eq_some_iff.1 hv).1
  rw [Nat.zero_add, h.cellAt j (by have := h.1; omega), hv]

theorem four_of (ps : List P5) (h : ps.length = 4) : ∃ a0 b0 c0 d0 e0 a1 b1 c1 d1 e1 a2 b2 c2 d2 e2 a3 b3 c3 d3 e3 : Int, ps = [(⟨a0, b0, c0, d0, e0⟩ : P5), (⟨a1, b1, c1, d1, e1⟩ : P5), (⟨a2, b2, c2, d2, e2⟩ : P5), (⟨a3, b3, c3, d3, e3⟩ : P5)] := by
  match ps, h with
  | [⟨a0, b0, c0, d0, e0⟩, ⟨a1, b1, c1, d1, e1⟩, ⟨a2, b2, c2, d2, e2⟩, ⟨a3, b3, c3, d3, e3⟩], _ => exact ⟨_, _, _, _, _, _, _, _, _, _, _, _, _, _, _, _, _, _, _, _, rfl⟩

set_option maxRecDepth 100000 in
set_option maxHeartbeats 4000000 in
theorem impl_fanget (s : ByteArray) (w : World) (hs : s.size ≤ 1048576) (hE : Env w) : Calls Tryd.prog 29 #[.string s] w (FanPost (fanR s) 67 w) := by
  have hC := splitN_any s 44 5 w hs hE.2.2 (by decide) (by decide)
  rw [show ((5 : Nat) : Int) = 5 from rfl] at hC
  have hone := split_one 44 4 s (by decide)
  obtain ⟨qs, hqs⟩ : ∃ qs, qs = Lib.splitB ⟨#[44]⟩ 0 (min 5 (s.size + 1) - 1) s := ⟨_, rfl⟩
  rw [← hqs] at hC
  rw [show (4 : Nat) + 1 = 5 from rfl, ← hqs] at hone
  have hsz := cutsB_short 44 s
  have hyes := @fanR_yes s
  have hno := @fanR_no s
  obtain ⟨ps, hps⟩ : ∃ ps, ps = cutsB 44 s := ⟨_, rfl⟩
  rw [← hps] at hone hsz hyes hno
  obtain ⟨r, hr⟩ : ∃ r, r = fanR s := ⟨_, rfl⟩
  rw [← hr] at hyes hno ⊢
  clear hps hr hqs
  rcases hone with ⟨h4, rfl⟩ | ⟨h4, h4q⟩
  · have hpl : (qs.map rdP).length = 4 := by simpa using h4
    rw [h4] at hC
    go_enter Tryd.func29, Tryd.ntmps29
    go_wp2_with (go_at_call 56; refine hC.mono ?_; rintro e w1 ⟨g, cp, rfl, hA, hb1⟩; refine Hid.out ?_)
    refine Lib.hid ?_
    have hg1 : g < w1.heap.size := by
      obtain ⟨b, off, e, hlt, _⟩ := hA (by omega)
      cases e
      exact hlt
    have o1 := World.ownsRow_lit (e := 67) (size := 5) (base := w1.heap.size) w1 #[.int .i64 0, .int .i64 0, .int .i64 0, .int .i64 0, .int .i64 0, .int .i64 0, .int .i64 0, .int .i64 0, .int .i64 0, .int .i64 0, .int .i64 0, .int .i64 0, .int .i64 0, .int .i64 0, .int .i64 0, .int .i64 0, .int .i64 0, .int .i64 0, .int .i64 0, .int .i64 0] 4 (Nat.le_refl _) (by decide) rfl
    rw [show (#[.int .i64 0, .int .i64 0, .int .i64 0, .int .i64 0, .int .i64 0, .int .i64 0, .int .i64 0, .int .i64 0, .int .i64 0, .int .i64 0, .int .i64 0, .int .i64 0, .int .i64 0, .int .i64 0, .int .i64 0, .int .i64 0, .int .i64 0, .int .i64 0, .int .i64 0, .int .i64 0] : Array Value).toList = flat ((qs.map rdP).take 0) ++ zeros (4 - 0) from rfl] at o1
    have B1 := bel_fresh2 w1 (o := .cells #[.int .i64 0, .int .i64 0, .int .i64 0, .int .i64 0, .int .i64 0, .int .i64 0, .int .i64 0, .int .i64 0, .int .i64 0, .int .i64 0, .int .i64 0, .int .i64 0, .int .i64 0, .int .i64 0, .int .i64 0, .int .i64 0, .int .i64 0, .int .i64 0, .int .i64 0, .int .i64 0] 67)
    clear hC
    go_wp2_with fail
    go_loopg [17] 4 (fun gh i wr => ∃ (j : Nat), gh = 4 - j ∧ j ≤ 4 ∧ i = .int .i64 j ∧ (∀ k (hk : k < qs.length), k < j → rdOk qs[k] = true) ∧ wr.ownsRow w1.heap.size 67 5 (.slice (some ⟨w1.heap.size, 0, none⟩) 4 4) 4 (flat ((qs.map rdP).take j) ++ zeros (4 - j)) ∧ Below w1.heap.size w1 wr)
    case atStart => exact ⟨0, by omega, by omega, rfl, by omega, o1, B1⟩
    case round =>
      clear o1 B1
      obtain ⟨j, hg, hj, rfl, hok, ho, hb⟩ := hrel
      have HG := Lib.hid hg
      clear hg
      by_cases hlt : j < 4
      · have hlt' : (j : Int) < 4 := by omega
        have hlq : j < qs.length := by omega
        have hlp : j < (qs.map rdP).length := by omega
        obtain ⟨b9, off9, e9, hlb, hc9⟩ := (hA.below hb) (by omega)
        obtain ⟨rfl, rfl⟩ : b9 = g ∧ off9 = 0 := by cases e9; exact ⟨rfl, rfl⟩
        have hck := hc9 j hlq
        rw [Nat.zero_add] at hck
        have hpj := hsz qs[j] (List.getElem_mem _)
        have hEw := hE.at (bel_then hb1 hb)
        have hP := impl_pget qs[j] wr (by omega) hEw
        obtain ⟨a, c, d, e, f, hp⟩ : ∃ a c d e f, rdP qs[j] = ⟨a, c, d, e, f⟩ := ⟨_, _, _, _, _, rfl⟩
        have hp2 : (qs.map rdP)[j] = ⟨a, c, d, e, f⟩ := by rw [List.getElem_map, hp]
        obtain ⟨o, hoo⟩ : ∃ o, o = rdOk qs[j] := ⟨_, rfl⟩
        have hP2 : Calls Tryd.prog 23 #[.string qs[j]] wr fun e' w' => e' = .returned (.tuple #[.agg #[.int .i64 a, .int .i64 c, .int .i64 d, .int .i64 e, .int .i64 f], .bool o]) ∧ Below wr.heap.size wr w' := hP.mono fun e' w' ⟨h1, h2⟩ => ⟨by rw [h1, hoo]; unfold rdOk; have : (ptrG qs[j]).1 = ⟨a, c, d, e, f⟩ := hp; rw [this]; rfl, h2⟩
        cases o with
        | false =>
          have hv : r = ([], false) := hno (fun h => by
            have := h.2.1 _ (List.getElem_mem hlq)
            rw [← hoo] at this
            exact absurd this (by decide))
          subst hv
          obtain ⟨q, hq⟩ : ∃ q, q = qs[j] := ⟨_, rfl⟩
          rw [← hq] at hP2 hck
          clear hP hpj hp hp2 hq hoo hok hno hyes hsz hc9 e9 hE hEw
          go_wp2_with (go_at_call 23; refine hP2.mono ?_; rintro r w2 ⟨rfl, hb2⟩)
          go_ret2
          exact ⟨bel_new (bel_then (bel_then hb1 hb) hb2) _, .inr ⟨rfl, _, _, rfl⟩⟩
        | true =>
          have HK : Hid (∀ k (hk : k < qs.length), k < j + 1 → rdOk qs[k] = true) := Lib.hid (fun k hk hkj => by
            by_cases e1 : k = j
            · subst e1; exact hoo.symm
            · exact hok k hk (by omega))
          obtain ⟨m, hm⟩ : ∃ m, 4 - j = m + 1 := ⟨3 - j, by omega⟩
          have HM : Hid (4 - (j + 1) = m) := Lib.hid (by omega)
          rw [hm, zeros_succ, ← List.append_assoc] at ho
          have HP2 := Lib.hid hp2
          obtain ⟨q, hq⟩ : ∃ q, q = qs[j] := ⟨_, rfl⟩
          rw [← hq] at hP2 hck
          clear hP hpj hp hp2 hq hoo hok hno hyes hsz hc9 e9 hE hEw hm
          go_wp2_with (go_at_call 23; refine hP2.mono ?_; rintro r w2 ⟨rfl, hb2⟩; have ho2 := (own_below5 ho hb2).alloc (.cells #[.int .i64 a, .int .i64 c, .int .i64 d, .int .i64 e, .int .i64 f] 24); have B2 := bel_new (bel_then hb hb2) (.cells #[.int .i64 a, .int .i64 c, .int .i64 d, .int .i64 e, .int .i64 f] 24); obtain ⟨z0, z1, z2, z3, z4⟩ := own_cells5t ho2 hlp hlt; have f0 := ho2.frozenAt (j * 5); have f1 := ho2.frozenAt (j * 5 + 1); have f2 := ho2.frozenAt (j * 5 + 2); have f3 := ho2.frozenAt (j * 5 + 3); have f4 := ho2.frozenAt (j * 5 + 4))
          have R := own_set5t ho2 hlp HP2.out
          have B5 := ((((B2.setCell (p := ⟨w1.heap.size, j * 5, none⟩) (Nat.le_refl _) (.int .i64 a)).setCell (p := ⟨w1.heap.size, j * 5 + 1, none⟩) (Nat.le_refl _) (.int .i64 c)).setCell (p := ⟨w1.heap.size, j * 5 + 2, none⟩) (Nat.le_refl _) (.int .i64 d)).setCell (p := ⟨w1.heap.size, j * 5 + 3, none⟩) (Nat.le_refl _) (.int .i64 e)).setCell (p := ⟨w1.heap.size, j * 5 + 4, none⟩) (Nat.le_refl _) (.int .i64 f)
          clear ho2 B2 z0 z1 z2 z3 z4 f0 f1 f2 f3 f4 hb hb2 ho
          go_roundg (4 - (j + 1))
          case measure => have := HG.out; omega
          case rel => exact ⟨j + 1, rfl, by omega, by go_num, HK.out, by rw [HM.out]; exact R, B5⟩
      · obtain rfl : j = 4 := by omega
        have hall : ∀ q ∈ qs, rdOk q = true := fun q hq => by
          obtain ⟨k, hk, rfl⟩ := List.getElem_of_mem hq
          exact hok k hk (by omega)
        have hy2 := hyes h4 hall
        have hn2 : someP (qs.map rdP) = false → r = ([], false) := fun h => hno (fun h2 => by rw [h] at h2; exact absurd h2.2.2 (by decide))
        rw [List.take_of_length_le (by omega), show zeros (4 - 4) = [] from rfl, List.append_nil] at ho
        obtain ⟨a0, b0, c0, d0, e0, a1, b1, c1, d1, e1, a2, b2, c2, d2, e2, a3, b3, c3, d3, e3, hps⟩ := four_of (qs.map rdP) hpl
        rw [hps] at ho hy2 hn2
        have hR := own_range ho
        rw [show flat [(⟨a0, b0, c0, d0, e0⟩ : P5), (⟨a1, b1, c1, d1, e1⟩ : P5), (⟨a2, b2, c2, d2, e2⟩ : P5), (⟨a3, b3, c3, d3, e3⟩ : P5)] = [.int .i64 a0, .int .i64 b0, .int .i64 c0, .int .i64 d0, .int .i64 e0, .int .i64 a1, .int .i64 b1, .int .i64 c1, .int .i64 d1, .int .i64 e1, .int .i64 a2, .int .i64 b2, .int .i64 c2, .int .i64 d2, .int .i64 e2, .int .i64 a3, .int .i64 b3, .int .i64 c3, .int .i64 d3, .int .i64 e3] from rfl] at hR
        have hM := fun W => m_empty a0 b0 c0 d0 e0 a1 b1 c1 d1 e1 a2 b2 c2 d2 e2 a3 b3 c3 d3 e3 W
        have hiff : someP [(⟨a0, b0, c0, d0, e0⟩ : P5), (⟨a1, b1, c1, d1, e1⟩ : P5), (⟨a2, b2, c2, d2, e2⟩ : P5), (⟨a3, b3, c3, d3, e3⟩ : P5)] = !(isHole a0 b0 c0 d0 e0 && isHole a1 b1 c1 d1 e1 && isHole a2 b2 c2 d2 e2 && isHole a3 b3 c3 d3 e3) := by simp [someP, P5.hole, Bool.or_assoc]
        obtain ⟨z, hz⟩ : ∃ z, z = (isHole a0 b0 c0 d0 e0 && isHole a1 b1 c1 d1 e1 && isHole a2 b2 c2 d2 e2 && isHole a3 b3 c3 d3 e3) := ⟨_, rfl⟩
        rw [← hz] at hM hiff
        rw [hiff] at hy2 hn2
        have B1 := bel_then hb1 hb
        cases z with
        | true =>
          have hv := hn2 rfl
          subst hv
          clear hy2 hn2 hiff hz hps ho hall hok hno hyes hE
          go_wp2_with (first | (refine wpList_load_mid rfl 67 _ rfl w1.heap.size 0 rfl [.int .i64 a0, .int .i64 b0, .int .i64 c0, .int .i64 d0, .int .i64 e0, .int .i64 a1, .int .i64 b1, .int .i64 c1, .int .i64 d1, .int .i64 e1, .int .i64 a2, .int .i64 b2, .int .i64 c2, .int .i64 d2, .int .i64 e2, .int .i64 a3, .int .i64 b3, .int .i64 c3, .int .i64 d3, .int .i64 e3] _ (by assumption) Tryd.underlying67 rfl (info67 _ _ _ _ _ _ _ _ _ _ _ _ _ _ _ _ _ _ _ _) ?_) | (go_at_call 57; refine (hM _).mono ?_; rintro r w2 ⟨rfl, hb2⟩))
          go_ret2
          exact ⟨bel_then B1 hb2, .inr ⟨rfl, _, _, rfl⟩⟩
        | false =>
          have hv := hy2 rfl
          subst hv
          have HO := Lib.hid ho
          clear hy2 hn2 hiff hz hps ho hall hok hno hyes hE
          go_wp2_with (first | (refine wpList_load_mid rfl 67 _ rfl w1.heap.size 0 rfl [.int .i64 a0, .int .i64 b0, .int .i64 c0, .int .i64 d0, .int .i64 e0, .int .i64 a1, .int .i64 b1, .int .i64 c1, .int .i64 d1, .int .i64 e1, .int .i64 a2, .int .i64 b2, .int .i64 c2, .int .i64 d2, .int .i64 e2, .int .i64 a3, .int .i64 b3, .int .i64 c3, .int .i64 d3, .int .i64 e3] _ (by assumption) Tryd.underlying67 rfl (info67 _ _ _ _ _ _ _ _ _ _ _ _ _ _ _ _ _ _ _ _) ?_) | (go_at_call 57; refine (hM _).mono ?_; rintro r w2 ⟨rfl, hb2⟩))
          go_ret2
          exact ⟨bel_then B1 hb2, .inl ⟨rfl, w1.heap.size, 4, rfl, own_base (own_below5 HO.out hb2) hb1.size⟩⟩
  · have hq4 : ((qs.length : Int) != 4) = true := by rw [bne_iff_ne]; omega
    have hv : r = ([], false) := hno (fun h => h4 h.1)
    subst hv
    obtain ⟨n, hn⟩ : ∃ n, n = qs.length := ⟨_, rfl⟩
    rw [← hn] at hC hq4
    clear h4 h4q hn hyes hno hsz
    go_enter Tryd.func29, Tryd.ntmps29
    go_wp2_with (go_at_call 56; refine hC.mono ?_; rintro e w1 ⟨g, cp, rfl, hA, hb1⟩)
    go_ret2
    exact ⟨hb1, .inr ⟨rfl, _, _, rfl⟩⟩
end Go.Proofs.YtlfggmllpbghaaaDoor
