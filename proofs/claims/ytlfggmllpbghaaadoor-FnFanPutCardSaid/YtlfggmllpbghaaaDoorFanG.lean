/-
  FanGet, the model's: the pointers of an indirect block, or that a text is none.
-/
import Derived.Test.YtlfggmllpbghaaaDoorPtrsTo
namespace Go.Proofs.YtlfggmllpbghaaaDoor
open Go.RowKit

def rdP (q : ByteArray) : P5 := (ptrG q).1
def rdOk (q : ByteArray) : Bool := (ptrG q).2
def fanR (s : ByteArray) : List P5 × Bool :=
  if (cutsB 44 s).length = 4 ∧ (∀ q ∈ cutsB 44 s, rdOk q = true) ∧ someP ((cutsB 44 s).map rdP) = true then ((cutsB 44 s).map rdP, true) else ([], false)
theorem fanR_yes {s : ByteArray} (h : (cutsB 44 s).length = 4) (h1 : ∀ q ∈ cutsB 44 s, rdOk q = true) (h2 : someP ((cutsB 44 s).map rdP) = true) : fanR s = ((cutsB 44 s).map rdP, true) := if_pos ⟨h, h1, h2⟩
theorem fanR_no {s : ByteArray} (h : ¬ ((cutsB 44 s).length = 4 ∧ (∀ q ∈ cutsB 44 s, rdOk q = true) ∧ someP ((cutsB 44 s).map rdP) = true)) : fanR s = ([], false) := if_neg h

def FanPost (r : List P5 × Bool) (t : TypeId) (w : World) (e : Ending) (w' : World) : Prop :=
  Below w.heap.size w w' ∧ ((r.2 = true ∧ ∃ g c : Nat, e = .returned (.tuple #[.slice (some ⟨g, 0, none⟩) r.1.length c, .bool true]) ∧ w'.ownsRow w.heap.size t 5 (.slice (some ⟨g, 0, none⟩) r.1.length c) r.1.length (flat r.1)) ∨
    (r.2 = false ∧ ∃ (A : Option Addr) (c : Nat), e = .returned (.tuple #[.slice A 0 c, .bool false])))

theorem own_base {w : World} {t : TypeId} {sz base base' n : Nat} {v : Value} {xs : List Value} (h : w.ownsRow base t sz v n xs) (hb : base' ≤ base) : w.ownsRow base' t sz v n xs := by
  refine ⟨h.1, ?_⟩
  rcases h.2 with h2 | ⟨g, cap, cur, h3, h4, h5⟩
  · exact .inl h2
  · exact .inr ⟨g, cap, cur, h3, Nat.le_trans hb h4, h5⟩
theorem own_form5 {w : World} {t : TypeId} {sz base n : Nat} {v : Value} {xs : List Value} (h : w.ownsRow base t sz v n xs) (hn : 0 < n) : ∃ g cap, v = .slice (some ⟨g, 0, none⟩) n cap := by
  rcases h.2 with ⟨_, h0⟩ | ⟨g, cap, _, rfl, _⟩
  · omega
  · exact ⟨g, cap, rfl⟩
theorem bel_row5 {a w w' : World} {t : TypeId} {sz base n : Nat} {v : Value} {xs : List Value} (h : Below a.heap.size a w) (ho : w.ownsRow base t sz v n xs) (hb : a.heap.size ≤ base) (hg : w.grownBy w' v.ownBlock) : Below a.heap.size a w' :=
  h.grown hg h.size (fun k e => Nat.le_trans hb (ho.lt k e).1)
theorem cell_five_new (w : World) (a c d e f : Value) (t : TypeId) : ∀ j u, [a, c, d, e, f][j]? = some u → (w.alloc (.cells #[a, c, d, e, f] t)).cell? ((⟨w.heap.size, 0, none⟩ : Addr).add j) = some u := by
  intro j u hj
  have hadd : (⟨w.heap.size, 0, none⟩ : Addr).add j = ⟨w.heap.size, j, none⟩ := by unfold Addr.add; split <;> simp_all
  rw [hadd, World.cell?_alloc_mark]
  match j, hj with
  | 0, hj => exact hj
  | 1, hj => exact hj
  | 2, hj => exact hj
  | 3, hj => exact hj
  | 4, hj => exact hj
  | j + 5, hj => simp at hj
theorem cell_five_at (w : World) (g : Nat) (hg : g = w.heap.size) (a c d e f : Value) (t : TypeId) : ∀ j u, [a, c, d, e, f][j]? = some u → (w.alloc (.cells #[a, c, d, e, f] t)).cell? ((⟨g, 0, none⟩ : Addr).add j) = some u := by
  subst hg
  exact cell_five_new w a c d e f t
theorem flat_next {qs : List ByteArray} {j : Nat} (h : j < qs.length) {a c d e f : Int} (hp : rdP qs[j] = ⟨a, c, d, e, f⟩) : flat ((qs.map rdP).take (j + 1)) = flat ((qs.map rdP).take j) ++ [.int .i64 a, .int .i64 c, .int .i64 d, .int .i64 e, .int .i64 f] := by
  rw [List.take_succ_eq_append_getElem (by simpa using h), List.getElem_map, hp]
  unfold flat
  rw [List.flatMap_append]
  simp [P5.cells]
theorem some_next {qs : List ByteArray} {j : Nat} (h : j < qs.length) {a c d e f : Int} (hp : rdP qs[j] = ⟨a, c, d, e, f⟩) : someP ((qs.map rdP).take (j + 1)) = (someP ((qs.map rdP).take j) || !isHole a c d e f) := by
  rw [List.take_succ_eq_append_getElem (by simpa using h), List.getElem_map, hp]
  unfold someP
  rw [List.any_append]
  simp [P5.hole]

set_option maxRecDepth 100000 in
set_option maxHeartbeats 4000000 in
theorem spec_fanget (s : ByteArray) (w : World) (hs : s.size ≤ 1048576) : Calls Tryd.prog 32 #[.string s] w (FanPost (fanR s) 24 w) := by
  have hC := spec_cut s 44 w hs
  rw [show ((44 : UInt8).toNat : Int) = 44 from rfl] at hC
  have hsz := cutsB_short 44 s
  have hyes := @fanR_yes s
  have hno := @fanR_no s
  have hlen : (cutsB 44 s).length ≤ 1048577 := by
    have := (cutA_len 44 s.data.toList []).1
    rw [cutsB_len]
    have h2 : s.data.toList.length = s.size := by simp
    show (cutA 44 [] s.data.toList).length ≤ _
    omega
  obtain ⟨qs, hqs⟩ : ∃ qs, qs = cutsB 44 s := ⟨_, rfl⟩
  obtain ⟨r, hr⟩ : ∃ r, r = fanR s := ⟨_, rfl⟩
  rw [← hqs] at hC hsz hlen hyes hno
  rw [← hr] at hyes hno ⊢
  clear hqs hr
  obtain ⟨i0, hi, hz0, hz1, hz2⟩ := info_parts Tryd.info24
  go_enter Tryd.func32, Tryd.ntmps32
  go_wp2_with (go_at_call 51; refine hC.mono ?_; rintro e w1 ⟨g, cp, rfl, ho, hb1⟩; refine Hid.out ?_)
  refine Lib.hid ?_
  have hA := StrsAt.of_own ho rfl
  have o1 := World.ownsRow_made (e := 24) (base := w1.heap.size) w1 (size := 5) #[] 0 (Nat.le_refl _) (by decide) rfl
  have hn0 : 0 < w.heap.size ∨ True := .inr trivial
  clear ho hC hn0
  go_wp2_with fail
  go_loopg [5, 6, 7] qs.length (fun gh b sm i wr => ∃ (j g2 c2 : Nat), gh = qs.length - j ∧ j ≤ qs.length ∧ i = .int .i64 j ∧ b = .slice (some ⟨g2, 0, none⟩) j c2 ∧ sm = .bool (someP ((qs.map rdP).take j)) ∧ (∀ k (hk : k < qs.length), k < j → rdOk qs[k] = true) ∧ wr.ownsRow w1.heap.size 24 5 (.slice (some ⟨g2, 0, none⟩) j c2) j (flat ((qs.map rdP).take j)) ∧ Below w1.heap.size w1 wr)
  case atStart => exact ⟨0, w1.heap.size, 0, by omega, by omega, rfl, rfl, rfl, by omega, o1, bel_fresh2 w1⟩
  case round =>
    clear o1
    obtain ⟨j, g2, c2, hg, hj, rfl, rfl, rfl, hok, ho, hb⟩ := hrel
    have HG := Lib.hid hg
    clear hg
    have s1 := hb.size
    by_cases hlt : j < qs.length
    · have hlt' : (j : Int) < (qs.length : Int) := by omega
      obtain ⟨b9, off9, e9, hlb, hc9⟩ := (hA.below hb) (by omega)
      obtain ⟨rfl, rfl⟩ : b9 = g ∧ off9 = 0 := by cases e9; exact ⟨rfl, rfl⟩
      have hck := hc9 j hlt
      rw [Nat.zero_add] at hck
      have hpj := hsz qs[j] (List.getElem_mem _)
      have hP := fun W => spec_pget qs[j] W (by omega)
      obtain ⟨a, c, d, e, f, hp⟩ : ∃ a c d e f, rdP qs[j] = ⟨a, c, d, e, f⟩ := ⟨_, _, _, _, _, rfl⟩
      have HF := Lib.hid (flat_next hlt hp)
      have HS := Lib.hid (some_next hlt hp)
      obtain ⟨o, hoo⟩ : ∃ o, o = rdOk qs[j] := ⟨_, rfl⟩
      have hP2 : ∀ W, Calls Tryd.prog 25 #[.string qs[j]] W fun e' w' => e' = .returned (.tuple #[.agg #[.int .i64 a, .int .i64 c, .int .i64 d, .int .i64 e, .int .i64 f], .bool o]) ∧ Below W.heap.size W w' := fun W => (hP W).mono fun e' w' ⟨h1, h2⟩ => ⟨by rw [h1, hoo]; unfold rdOk; have : (ptrG qs[j]).1 = ⟨a, c, d, e, f⟩ := hp; rw [this]; rfl, h2⟩
      have hM : ∀ W, Calls Tryd.prog 20 #[.agg #[.int .i64 a, .int .i64 c, .int .i64 d, .int .i64 e, .int .i64 f]] W fun r w' => r = .returned (.bool (isHole a c d e f)) ∧ w' = W.alloc (.cells #[.int .i64 a, .int .i64 c, .int .i64 d, .int .i64 e, .int .i64 f] 24) := fun W => spec_hole a c d e f W
      cases o with
      | false =>
        have hv : r = ([], false) := hno (fun h => by
          have := h.2.1 _ (List.getElem_mem hlt)
          rw [← hoo] at this
          exact absurd this (by decide))
        subst hv
        obtain ⟨q, hq⟩ : ∃ q, q = qs[j] := ⟨_, rfl⟩
        rw [← hq] at hP2 hck
        clear hP hpj hp hq hoo hok hno hyes hsz hc9 e9 HF HS hM
        go_wp2_with (go_at_call 25; refine (hP2 _).mono ?_; rintro r w2 ⟨rfl, hb2⟩)
        go_ret2
        exact ⟨bel_new (bel_new (bel_then (bel_then hb1 hb) hb2) _) _, .inr ⟨rfl, _, _, rfl⟩⟩
      | true =>
        have HK : Hid (∀ k (hk : k < qs.length), k < j + 1 → rdOk qs[k] = true) := Lib.hid (fun k hk hkj => by
          by_cases e1 : k = j
          · subst e1; exact hoo.symm
          · exact hok k hk (by omega))
        obtain ⟨q, hq⟩ : ∃ q, q = qs[j] := ⟨_, rfl⟩
        rw [← hq] at hP2 hck
        obtain ⟨z, hz⟩ : ∃ z, z = isHole a c d e f := ⟨_, rfl⟩
        obtain ⟨sb, hsb⟩ : ∃ sb, sb = someP ((qs.map rdP).take j) := ⟨_, rfl⟩
        rw [← hz, ← hsb] at HS
        rw [← hz] at hM
        rw [← hsb]
        clear hP hpj hp hq hoo hok hno hyes hsz hc9 e9 hz hsb
        cases sb
        · cases z
          · skip
            go_wp2_with (first | (go_at_call 25; refine (hP2 _).mono ?_; rintro r w2 ⟨rfl, hb2⟩; have ho2 := own_below5 ho hb2; have B2 := bel_then hb hb2; have s2 := B2.size) | (go_at_call 20; refine (hM _).mono ?_; rintro r w3 ⟨rfl, rfl⟩) | (at_builtin; refine wpList_append_own_at _ rfl _ _ 32 rfl w1.heap.size 24 i0 (.agg #[.int .i64 0, .int .i64 0, .int .i64 0, .int .i64 0, .int .i64 0]) 5 40 Tryd.underlying32 hi hz0 hz1 hz2 rfl (by decide) _ _ _ rfl (((ho2.alloc _).alloc _).alloc _) ⟨_, 0, none⟩ 1 1 [.int .i64 a, .int .i64 c, .int .i64 d, .int .i64 e, .int .i64 f] rfl rfl (cell_five_at _ _ (by simp) _ _ _ _ _ _) (by simp [Value.oneCell']) (by unfold maxLen; omega) (by omega) (by simp; omega) ?_))
            intro v' w4 hown' hgrow _ hat
            have R : w4.ownsRow w1.heap.size 24 5 v' (j + 1) (flat ((qs.map rdP).take (j + 1))) := by rw [HF.out]; exact hown'
            have B4 : Below w1.heap.size w1 w4 := bel_row5 (bel_new (bel_new (bel_new B2 _) _) _) (((ho2.alloc _).alloc _).alloc _) (Nat.le_refl _) hgrow
            obtain ⟨g4, c4, rfl⟩ := own_form5 R (by omega)
            clear hown' hgrow hat ho ho2 hb hb2
            go_wp2
            go_roundg (qs.length - (j + 1))
            case measure => have := HG.out; omega
            case rel => exact ⟨j + 1, g4, c4, rfl, by omega, by go_num, rfl, by rw [HS.out]; rfl, HK.out, R, B4⟩
          · skip
            go_wp2_with (first | (go_at_call 25; refine (hP2 _).mono ?_; rintro r w2 ⟨rfl, hb2⟩; have ho2 := own_below5 ho hb2; have B2 := bel_then hb hb2; have s2 := B2.size) | (go_at_call 20; refine (hM _).mono ?_; rintro r w3 ⟨rfl, rfl⟩) | (at_builtin; refine wpList_append_own_at _ rfl _ _ 32 rfl w1.heap.size 24 i0 (.agg #[.int .i64 0, .int .i64 0, .int .i64 0, .int .i64 0, .int .i64 0]) 5 40 Tryd.underlying32 hi hz0 hz1 hz2 rfl (by decide) _ _ _ rfl (((ho2.alloc _).alloc _).alloc _) ⟨_, 0, none⟩ 1 1 [.int .i64 a, .int .i64 c, .int .i64 d, .int .i64 e, .int .i64 f] rfl rfl (cell_five_at _ _ (by simp) _ _ _ _ _ _) (by simp [Value.oneCell']) (by unfold maxLen; omega) (by omega) (by simp; omega) ?_))
            intro v' w4 hown' hgrow _ hat
            have R : w4.ownsRow w1.heap.size 24 5 v' (j + 1) (flat ((qs.map rdP).take (j + 1))) := by rw [HF.out]; exact hown'
            have B4 : Below w1.heap.size w1 w4 := bel_row5 (bel_new (bel_new (bel_new B2 _) _) _) (((ho2.alloc _).alloc _).alloc _) (Nat.le_refl _) hgrow
            obtain ⟨g4, c4, rfl⟩ := own_form5 R (by omega)
            clear hown' hgrow hat ho ho2 hb hb2
            go_wp2
            go_roundg (qs.length - (j + 1))
            case measure => have := HG.out; omega
            case rel => exact ⟨j + 1, g4, c4, rfl, by omega, by go_num, rfl, by rw [HS.out]; rfl, HK.out, R, B4⟩
        · skip
          go_wp2_with (first | (go_at_call 25; refine (hP2 _).mono ?_; rintro r w2 ⟨rfl, hb2⟩; have ho2 := own_below5 ho hb2; have B2 := bel_then hb hb2; have s2 := B2.size) | (go_at_call 20; refine (hM _).mono ?_; rintro r w3 ⟨rfl, rfl⟩) | (at_builtin; refine wpList_append_own_at _ rfl _ _ 32 rfl w1.heap.size 24 i0 (.agg #[.int .i64 0, .int .i64 0, .int .i64 0, .int .i64 0, .int .i64 0]) 5 40 Tryd.underlying32 hi hz0 hz1 hz2 rfl (by decide) _ _ _ rfl ((ho2.alloc _).alloc _) ⟨_, 0, none⟩ 1 1 [.int .i64 a, .int .i64 c, .int .i64 d, .int .i64 e, .int .i64 f] rfl rfl (cell_five_at _ _ (by simp) _ _ _ _ _ _) (by simp [Value.oneCell']) (by unfold maxLen; omega) (by omega) (by simp; omega) ?_))
          intro v' w4 hown' hgrow _ hat
          have R : w4.ownsRow w1.heap.size 24 5 v' (j + 1) (flat ((qs.map rdP).take (j + 1))) := by rw [HF.out]; exact hown'
          have B4 : Below w1.heap.size w1 w4 := bel_row5 (bel_new (bel_new B2 _) _) ((ho2.alloc _).alloc _) (Nat.le_refl _) hgrow
          obtain ⟨g4, c4, rfl⟩ := own_form5 R (by omega)
          clear hown' hgrow hat ho ho2 hb hb2
          go_wp2
          go_roundg (qs.length - (j + 1))
          case measure => have := HG.out; omega
          case rel => exact ⟨j + 1, g4, c4, rfl, by omega, by go_num, rfl, by rw [HS.out]; rfl, HK.out, R, B4⟩
    · obtain rfl : j = qs.length := by omega
      have hall : ∀ q ∈ qs, rdOk q = true := fun q hq => by
        obtain ⟨k, hk, rfl⟩ := List.getElem_of_mem hq
        exact hok k hk hk
      rw [List.take_of_length_le (by simp)] at ho ⊢
      have BB := bel_then hb1 hb
      have hbase := own_base ho hb1.size
      by_cases hx : qs.length = 4 ∧ someP (qs.map rdP) = true
      · have hv := hyes hx.1 hall hx.2
        have hq4 : ((qs.length : Int) != 4) = false := by rw [hx.1]; rfl
        rw [hx.2]
        obtain ⟨ps, hps⟩ : ∃ ps, ps = qs.map rdP := ⟨_, rfl⟩
        rw [← hps] at hv hbase
        have hl : ps.length = qs.length := by rw [hps, List.length_map]
        have HB : Hid (wr.ownsRow w.heap.size 24 5 (.slice (some ⟨g2, 0, none⟩) ps.length c2) ps.length (flat ps)) := Lib.hid (by rw [hl]; exact hbase)
        have HL := Lib.hid hl
        subst hv
        clear hall hok hno hyes hx hps ho hl hbase hb
        go_wp2_with fail
        go_ret2
        exact ⟨BB, .inl ⟨rfl, g2, c2, congrArg (fun n : Nat => Ending.returned (Value.tuple #[.slice (some ⟨g2, 0, none⟩) n c2, .bool true])) HL.out.symm, HB.out⟩⟩
      · have hv : r = ([], false) := hno (fun h => hx ⟨h.1, h.2.2⟩)
        subst hv
        by_cases h4 : qs.length = 4
        · have hs0 : someP (qs.map rdP) = false := by
            cases h : someP (qs.map rdP) with
            | false => rfl
            | true => exact absurd ⟨h4, h⟩ hx
          have hq4 : ((qs.length : Int) != 4) = false := by rw [h4]; rfl
          rw [hs0]
          clear hall hok hno hyes hx h4 hs0
          go_wp2_with fail
          go_ret2
          exact ⟨bel_new BB _, .inr ⟨rfl, _, _, rfl⟩⟩
        · have hq4 : ((qs.length : Int) != 4) = true := by rw [bne_iff_ne]; omega
          obtain ⟨sb, hsb⟩ : ∃ sb, sb = someP (qs.map rdP) := ⟨_, rfl⟩
          rw [← hsb]
          clear hall hok hno hyes hx h4 hsb
          go_wp2_with fail
          go_ret2
          exact ⟨bel_new BB _, .inr ⟨rfl, _, _, rfl⟩⟩
end Go.Proofs.YtlfggmllpbghaaaDoor
