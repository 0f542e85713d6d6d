/-
  A map from the numbers of rows to what is used of them, as a list of sixty-four.
-/
import Derived.Maps.OwnSet
import Derived.WalkArith
import Derived.Maps.RangeWalk
import Derived.Test.YtmnamclndpfjnaaSp
namespace Go.Proofs.Ytmnamclndpfjnaa
open Go.Maps (Keyed)

def encU (u : Int × Int) : DataW Unit := .agg [.lit (.int .i64 u.1), .lit (.int .i64 u.2)]
theorem encU_inj {a b : Int × Int} (h : encU a = encU b) : a = b := by
  simp [encU] at h
  exact Prod.ext h.1 h.2
def rdU : Value → Option (DataW Unit × List MemPlace)
  | .agg cs => match cs.toList with
    | [.int .i64 a, .int .i64 b] => some (encU (a, b), [])
    | _ => none
  | _ => none
theorem rdU_mk (a b : Int) : rdU (.agg #[.int .i64 a, .int .i64 b]) = some (encU (a, b), []) := rfl
theorem rdU_inv {v : Value} {y : DataW Unit × List MemPlace} (h : rdU v = some y) : ∃ u : Int × Int, v = .agg #[.int .i64 u.1, .int .i64 u.2] ∧ y = (encU u, []) := by
  unfold rdU at h
  split at h
  · rename_i cs
    split at h
    · rename_i a b e
      cases h
      refine ⟨(a, b), ?_, rfl⟩
      cases cs
      simp only at e
      rw [e]
    · cases h
  · cases h

/-- The types of such a map. -/
structure MTy (P : Program) (t k e : TypeId) : Prop where
  ht : P.underlying t = some (.map k e)
  hk : P.underlying k = some (.int .i64)
  hz : ∀ w, (zeroValue e).run P w = .ok (.agg #[.int .i64 0, .int .i64 0]) w

/-- D tells U. -/
structure Tells (D : DataW Unit) (U : Us) : Prop where
  len : U.length = 64
  cnt : Maps.size D = cntU U
  at_ : ∀ n : Int, D.atKey (.int .i64 n) (encU (0, 0)) = encU (useAt U n)
  has : ∀ n : Int, Maps.has D (.int .i64 n) = decide (useAt U n ≠ (0, 0))

/-- Block b is a map that tells U. -/
def UMap (w : World) (P : Program) (k : TypeId) (b : Nat) (U : Us) : Prop := ∃ D, w.ownsMap P k rdU b 64 D ∧ Tells D U

theorem cnt_le (U : Us) : cntU U ≤ U.length := by unfold cntU; exact List.length_filter_le _ _
theorem useAt_out {U : Us} (h : U.length = 64) {n : Int} (hn : useAt U n ≠ (0, 0)) : 0 ≤ n ∧ n < 64 := by
  unfold useAt at hn
  split at hn
  · refine ⟨by assumption, ?_⟩
    by_cases h1 : n.toNat < 64
    · omega
    · exfalso
      apply hn
      rw [List.getD_eq_getElem?_getD, List.getElem?_eq_none (by omega)]
      rfl
  · exact absurd rfl hn
theorem own_fit {w : World} {P : Program} {k : TypeId} {R : Value → Option (DataW Unit × List MemPlace)} {b n m : Nat} {D : DataW Unit} (h : w.ownsMap P k R b n D) (hm : Maps.size D ≤ m) : w.ownsMap P k R b m D := by
  obtain ⟨es, clock, hb, F, hs, rfl⟩ := h
  refine ⟨es, clock, hb, F, ?_, rfl⟩
  have : Maps.size (DataW.map ((es.toList.map (WideElems.rg P k R)).foldr DataW.insert [])) = es.size := by simp [Maps.size, length_sorted]
  omega

section
variable {P : Program} {t k e : TypeId} {w : World} {b : Nat} {U : Us}

theorem UMap.lt (h : UMap w P k b U) : b < w.heap.size := by obtain ⟨D, h, _⟩ := h; exact h.lt
theorem UMap.len (h : UMap w P k b U) : U.length = 64 := by obtain ⟨D, _, h⟩ := h; exact h.len
theorem UMap.below {w' : World} (h : UMap w P k b U) (hb : Go.RowKit.Below w.heap.size w w') : UMap w' P k b U := by
  obtain ⟨D, h, hD⟩ := h
  exact ⟨D, h.kept (row := none) ⟨hb.os, hb.tape, hb.output, hb.size, fun k hk _ => hb.block k hk⟩ (by simp), hD⟩
theorem UMap.set {a : Addr} (h : UMap w P k b U) (ha : b ≠ a.block) (u : Value) : UMap (w.setCell a u) P k b U := by
  obtain ⟨D, h, hD⟩ := h
  exact ⟨D, h.setCell ha u, hD⟩
theorem UMap.grown {w' : World} {r : Option Nat} (h : UMap w P k b U) (hg : w.grownBy w' r) (hr : some b ≠ r) : UMap w' P k b U := by
  obtain ⟨D, h, hD⟩ := h
  exact ⟨D, h.kept hg hr, hD⟩

theorem UMap.made (w : World) (P : Program) (k : TypeId) : UMap (w.alloc (.map #[] 0)) P k w.heap.size zeroU :=
  ⟨.map [], own_fit (World.ownsMap_made w P k rdU) (by simp [Maps.size]), ⟨zeroU_len, by rw [cnt_zero]; rfl, fun n => by rw [useAt_zero]; rfl, fun n => by rw [useAt_zero]; rfl⟩⟩

/-- 'm[n]'. -/
theorem UMap.look (h : UMap w P k b U) (T : MTy P t k e) {n : Int} (hw : (Lit.int .i64 n).wf = true) :
    (Instr.lookup t (.map (some b)) (.int .i64 n) false).run P w = .ok (.agg #[.int .i64 (useAt U n).1, .int .i64 (useAt U n).2]) w := by
  obtain ⟨D, h, hD⟩ := h
  obtain ⟨v, ps, hrun, hv⟩ := h.lookup (Maps.int_keyed T.hk) T.ht (T.hz w) (rdU_mk 0 0) (Maps.keyOf_int_mk T.hk hw)
  obtain ⟨u, rfl, hu⟩ := rdU_inv hv
  have e1 := congrArg Prod.fst hu
  simp only at e1
  rw [hD.at_] at e1
  rw [encU_inj e1]
  exact hrun

/-- 'len(m)'. -/
theorem UMap.count (h : UMap w P k b U) (T : MTy P t k e) (ty : TypeId) : (Builtin.len_ #[t] ty #[.map (some b)]).run P w = .ok (.int .i64 (cntU U)) w := by
  obtain ⟨D, h, hD⟩ := h
  rw [h.len T.ht ty, hD.cnt]

theorem tells_put {D : DataW Unit} (hD : Tells D U) (hi : Maps.Tidy D) {n : Int} (h0 : 0 ≤ n) (h1 : n < 64) {u : Int × Int} (hu : u ≠ (0, 0)) : Tells (D.put (.int .i64 n) (encU u)) (U.set n.toNat u) := by
  have hl : n.toNat < U.length := by rw [hD.len]; omega
  have hat : U.getD n.toNat (0, 0) = useAt U n := by unfold useAt; rw [if_pos h0]
  refine ⟨by simp [hD.len], ?_, fun m => ?_, fun m => ?_⟩
  · have := cnt_set U n.toNat u hl
    rw [if_neg hu, hat] at this
    rw [Maps.size_put hi, hD.has, hD.cnt]
    by_cases hz : useAt U n = (0, 0)
    · rw [if_pos hz] at this
      simp [hz]
      omega
    · rw [if_neg hz] at this
      simp [hz]
      omega
  · by_cases hm : m = n
    · subst hm
      rw [Maps.atKey_put_same hi.isMap (k := .int .i64 m) trivial, useAt_set_same h0 hl]
    · rw [Maps.atKey_put_other (by simpa using hm), hD.at_, useAt_set_other h0 hm]
  · by_cases hm : m = n
    · subst hm
      rw [Maps.has_put_same hi.isMap (k := .int .i64 m) trivial, useAt_set_same h0 hl]
      simp [hu]
    · rw [Maps.has_put_other (by simpa using hm), hD.has, useAt_set_other h0 hm]

theorem tells_del {D : DataW Unit} (hD : Tells D U) (hi : Maps.Tidy D) {n : Int} (h0 : 0 ≤ n) (h1 : n < 64) : Tells (D.del (.int .i64 n)) (U.set n.toNat (0, 0)) := by
  have hl : n.toNat < U.length := by rw [hD.len]; omega
  have hat : U.getD n.toNat (0, 0) = useAt U n := by unfold useAt; rw [if_pos h0]
  refine ⟨by simp [hD.len], ?_, fun m => ?_, fun m => ?_⟩
  · have := cnt_set U n.toNat (0, 0) hl
    rw [if_pos rfl, hat] at this
    have h2 := Maps.size_del (k := .int .i64 n) hi
    rw [hD.has, hD.cnt] at h2
    by_cases hz : useAt U n = (0, 0)
    · rw [if_pos hz] at this
      simp [hz] at h2
      omega
    · rw [if_neg hz] at this
      simp [hz] at h2
      omega
  · by_cases hm : m = n
    · subst hm
      rw [Maps.atKey_del_same, useAt_set_same h0 hl]
    · rw [Maps.atKey_del_other (by simpa using hm), hD.at_, useAt_set_other h0 hm]
  · by_cases hm : m = n
    · subst hm
      rw [Maps.has_del_same, useAt_set_same h0 hl]
      simp
    · rw [Maps.has_del_other (by simpa using hm), hD.has, useAt_set_other h0 hm]

/-- 'm[n] = u'. -/
theorem UMap.put (h : UMap w P k b U) (T : MTy P t k e) {n : Int} (h0 : 0 ≤ n) (h1 : n < 64) {u : Int × Int} (hu : u ≠ (0, 0)) :
    ∃ w', (Instr.mapUpdate t (.map (some b)) (.int .i64 n) (.agg #[.int .i64 u.1, .int .i64 u.2])).run P w = .ok () w' ∧ UMap w' P k b (U.set n.toNat u) ∧ w.grownBy w' (some b) := by
  obtain ⟨D, h, hD⟩ := h
  obtain ⟨w', hrun, r1, r2⟩ := h.update (Maps.int_keyed T.hk) T.ht (by unfold maxLen; omega) (Maps.keyOf_int_mk T.hk (a := n) (WalkArith.wf_i64 (by omega))) (rdU_mk u.1 u.2)
  have hT := tells_put hD (h.tidy (Maps.int_keyed T.hk)) h0 h1 hu
  refine ⟨w', hrun, ⟨_, own_fit r1 ?_, hT⟩, r2⟩
  rw [hT.cnt]
  have := cnt_le (U.set n.toNat u)
  rw [hT.len] at this
  exact this

/-- 'delete(m, n)'. -/
theorem UMap.del (h : UMap w P k b U) (T : MTy P t k e) {n : Int} (h0 : 0 ≤ n) (h1 : n < 64) (ty : TypeId) :
    ∃ w', (Builtin.delete_ #[t, k] ty #[.map (some b), .int .i64 n]).run P w = .ok (.tuple #[]) w' ∧ UMap w' P k b (U.set n.toNat (0, 0)) ∧ w.grownBy w' (some b) := by
  obtain ⟨D, h, hD⟩ := h
  obtain ⟨w', hrun, r1, r2⟩ := h.drop (Maps.int_keyed T.hk) T.ht (Maps.keyOf_int_mk T.hk (a := n) (WalkArith.wf_i64 (by omega))) ty
  exact ⟨w', hrun, ⟨_, r1, tells_del hD (h.tidy (Maps.int_keyed T.hk)) h0 h1⟩, r2.grown⟩

/-- A range over such a map is under way: L is what has come so far. -/
def URange (w : World) (P : Program) (k : TypeId) (b r : Nat) (U L : Us) : Prop :=
  ∃ D left cnt, w.ranges P k rdU b r 64 D left cnt ∧ Tells D U ∧ L.length = 64 ∧ ∀ n : Int, (useAt L n = (0, 0) ∧ left (.int .i64 n) = decide (useAt U n ≠ (0, 0))) ∨ (useAt L n = useAt U n ∧ left (.int .i64 n) = false)

theorem URange.start (h : UMap w P k b U) (T : MTy P t k e) : ∃ w', (Instr.range t (.map (some b))).run P w = .ok (.pointer (some ⟨w.heap.size, 0, none⟩)) w' ∧ URange w' P k b w.heap.size U zeroU ∧ w.grownBy w' none ∧ w'.heap.size = w.heap.size + 1 := by
  obtain ⟨D, h, hD⟩ := h
  obtain ⟨w', hrun, h1, h2, h3⟩ := h.range (Maps.int_keyed T.hk) T.ht
  exact ⟨w', hrun, ⟨D, _, _, h1, hD, zeroU_len, fun n => .inl ⟨useAt_zero n, hD.has n⟩⟩, h2, h3⟩

theorem us_ext {U L : Us} (hU : U.length = 64) (hL : L.length = 64) (h : ∀ n : Int, useAt L n = useAt U n) : L = U := by
  apply List.ext_getElem (by omega)
  intro i h1 h2
  have := h (i : Int)
  rw [useAt_nat, useAt_nat, List.getD_eq_getElem?_getD, List.getD_eq_getElem?_getD, List.getElem?_eq_getElem h1, List.getElem?_eq_getElem h2] at this
  simpa using this

theorem URange.next {r : Nat} {L : Us} (h : URange w P k b r U L) (T : MTy P t k e) (ty : TypeId) :
    (L = U ∧ (Instr.next (.pointer (some ⟨r, 0, none⟩)) false ty).run P w = .ok (.tuple #[.bool false]) w) ∨
    ∃ (n : Int) (u : Int × Int) (w' : World), 0 ≤ n ∧ n < 64 ∧ u = useAt U n ∧ u ≠ (0, 0) ∧ (Instr.next (.pointer (some ⟨r, 0, none⟩)) false ty).run P w = .ok (.tuple #[.bool true, .int .i64 n, .agg #[.int .i64 u.1, .int .i64 u.2]]) w' ∧
      URange w' P k b r U (L.set n.toNat u) ∧ w'.rangeLeft b r < w.rangeLeft b r ∧ w.grownBy w' (some r) ∧ w'.heap.size = w.heap.size ∧
      (Instr.entry (.pointer (some ⟨r, 0, none⟩))).run P w' = .ok (.tuple #[.int .i64 n, .agg #[.int .i64 u.1, .int .i64 u.2]]) w' := by
  obtain ⟨D, left, cnt, h, hD, hL, hl⟩ := h
  rcases h.next (Maps.int_keyed T.hk) ty with ⟨_, hl0, hrun⟩ | ⟨key, v, kl, y, w', cnt', hkey, hlk, hv, hat, hrun, hrg, hlt, hgr, hsz, hen⟩
  · left
    refine ⟨us_ext hD.len hL fun n => ?_, hrun⟩
    rcases hl n with ⟨a, b⟩ | ⟨a, _⟩
    · rw [hl0] at b
      have b2 : useAt U n = (0, 0) := by simpa using b
      rw [a, b2]
    · exact a
  · right
    obtain ⟨n, rfl, rfl, _⟩ := Maps.keyOf_int_inv T.hk hkey
    obtain ⟨u, rfl, rfl⟩ := rdU_inv hv
    have e1 := hat (encU (0, 0))
    rw [hD.at_] at e1
    have e2 : useAt U n = u := encU_inj e1
    have hne : useAt U n ≠ (0, 0) := by
      rcases hl n with ⟨_, b⟩ | ⟨_, b⟩
      · rw [hlk] at b
        simpa using b.symm
      · rw [hlk] at b
        cases b
    obtain ⟨g0, g1⟩ := useAt_out hD.len hne
    refine ⟨n, u, w', g0, g1, e2.symm, e2 ▸ hne, hrun, ⟨D, _, cnt', hrg, hD, by simp [hL], fun m => ?_⟩, by rw [hrg.left_eq, h.left_eq]; exact hlt, hgr, hsz, hen⟩
    by_cases hm : m = n
    · subst hm
      right
      rw [useAt_set_same g0 (by omega)]
      refine ⟨e2.symm, ?_⟩
      have : (Lit.int .i64 m).sameKey (.int .i64 m) = true := WideAt.sameKey_self trivial
      simp [this]
    · rw [useAt_set_other g0 hm]
      have : (Lit.int .i64 m).sameKey (.int .i64 n) = false := Maps.sameKey_ne (by simpa using hm)
      simp only [this, Bool.not_false, Bool.and_true]
      exact hl m
theorem URange.lt {r : Nat} {L : Us} (h : URange w P k b r U L) : r < w.heap.size ∧ b < w.heap.size ∧ r ≠ b := by
  obtain ⟨D, left, cnt, h, _⟩ := h
  exact ⟨h.lt, h.owns.lt, h.ne⟩
theorem URange.len {r : Nat} {L : Us} (h : URange w P k b r U L) : L.length = 64 := by
  obtain ⟨D, left, cnt, _, _, h, _⟩ := h
  exact h
theorem URange.grown {w' : World} {r : Nat} {L : Us} {q : Option Nat} (h : URange w P k b r U L) (hg : w.grownBy w' q) (hb : some b ≠ q) (hr : some r ≠ q) : URange w' P k b r U L := by
  obtain ⟨D, left, cnt, h, rest⟩ := h
  exact ⟨D, left, cnt, h.kept hg hb hr, rest⟩
theorem URange.left_kept {w' : World} {r : Nat} {L : Us} {q : Option Nat} (h : URange w P k b r U L) (hg : w.grownBy w' q) (hb : some b ≠ q) (hr : some r ≠ q) : w'.rangeLeft b r = w.rangeLeft b r := by
  obtain ⟨D, left, cnt, h, rest⟩ := h
  rw [(h.kept hg hb hr).left_eq, h.left_eq]
end
end Go.Proofs.Ytmnamclndpfjnaa
