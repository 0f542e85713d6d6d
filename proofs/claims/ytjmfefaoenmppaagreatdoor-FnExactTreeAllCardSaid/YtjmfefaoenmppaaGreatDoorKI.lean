/-
  Trees as lists: what a pointer leads to in a store, level by level, as the document's meaning goes (breadth first) and as the program goes (depth first): both agree. Pure.
  Branches in memory: a pointer with its level and the branches below it; the row of all of them, each ahead of those below it.
  How deep a tree is, both ways; so many holes; what is below a pointer, the program's.
  All branches of a branch, in a row.
  The pointers of the places of a plant.
-/
import Derived.Test.YtjmfefaoenmppaaGreatDoorKF
import Derived.Test.YtjmfefaoenmppaaGreatDoorKG
import Derived.Test.YtjmfefaoenmppaaGreatDoorKD
set_option linter.unusedVariables false

namespace Go.Proofs.YtjmfefaoenmppaaGreatDoor

def hole4 : List P5 := [P5.zero, P5.zero, P5.zero, P5.zero]
theorem zero_hole : P5.zero.hole = true := rfl
theorem zero_ok : P5.zero.ok = true := rfl
/-- What is below a pointer whose text was read. -/
def fanB (p : P5) (t : ByteArray) : List P5 × Bool := if p.hole = true then (hole4, true) else Fx.fanR t
theorem fanR_len {t : ByteArray} (h : (Fx.fanR t).2 = true) : (Fx.fanR t).1.length = 4 := by
  unfold Fx.fanR at *
  split at h
  · next hc => rw [if_pos hc, List.length_map]; exact hc.1
  · cases h
theorem fanR_ok {t : ByteArray} {q : P5} (h : q ∈ (Fx.fanR t).1) : q.ok = true := by
  unfold Fx.fanR at h
  split at h
  · next hc =>
    obtain ⟨x, hx, rfl⟩ := List.mem_map.1 h
    have := hc.2.1 x hx
    unfold Fx.rdOk Fx.ptrG at this
    unfold Fx.rdP Fx.ptrG
    split
    · rfl
    · next hne =>
      rw [if_neg hne] at this
      split
      · next hk => exact hk.2.1
      · next hk => rw [if_neg hk] at this; cases this
  · cases h
theorem fanR_bad {t : ByteArray} (h : (Fx.fanR t).2 = false) : (Fx.fanR t).1 = [] := by
  unfold Fx.fanR at *
  split at h
  · cases h
  · next hc => rw [if_neg hc]
theorem fanB_len {p : P5} {t : ByteArray} (h : (fanB p t).2 = true) : (fanB p t).1.length = 4 := by
  unfold fanB at *
  split at h
  · next hc => rw [if_pos hc]; rfl
  · next hc => rw [if_neg hc]; exact fanR_len h
theorem fanB_ok {p : P5} {t : ByteArray} {q : P5} (h : q ∈ (fanB p t).1) : q.ok = true := by
  unfold fanB at h
  split at h
  · simp only [hole4, List.mem_cons, List.not_mem_nil, or_false, or_self] at h
    rw [h]; rfl
  · exact fanR_ok h

/-- A pointer at a level, of a birth, is as it must be. -/
def brOk (s : St) (l : Nat) (birth : Int) (p : P5) : Prop := (readC s p).2 = true ∧ p.b ≤ birth ∧ (p.hole = true ∨ p.e = (l : Int))
instance (s : St) (l : Nat) (birth : Int) (p : P5) : Decidable (brOk s l birth p) := by unfold brOk; infer_instance
abbrev Br := List (P5 × Nat)
def both {α : Type} (a b : Option (List α)) : Option (List α) := match a, b with
  | some x, some y => some (x ++ y)
  | _, _ => none
@[simp] theorem both_none {α : Type} (b : Option (List α)) : both none b = none := rfl
@[simp] theorem both_none' {α : Type} (a : Option (List α)) : both a none = none := by cases a <;> rfl
@[simp] theorem both_some {α : Type} (x y : List α) : both (some x) (some y) = some (x ++ y) := rfl
theorem both_assoc {α : Type} (a b c : Option (List α)) : both (both a b) c = both a (both b c) := by
  cases a <;> cases b <;> cases c <;> simp
theorem both_nil {α : Type} (a : Option (List α)) : both a (some []) = a := by cases a <;> simp
theorem nil_both {α : Type} (a : Option (List α)) : both (some []) a = a := by cases a <;> simp
/-- One behind the other, if all are there. -/
def brAll {α β : Type} (f : α → Option (List β)) : List α → Option (List β)
  | [] => some []
  | q :: qs => both (f q) (brAll f qs)
theorem brAll_append {α β : Type} (f : α → Option (List β)) (a b : List α) : brAll f (a ++ b) = both (brAll f a) (brAll f b) := by
  induction a with
  | nil => rw [List.nil_append]; exact (nil_both _).symm
  | cons x a ih => rw [List.cons_append, brAll, ih, brAll, both_assoc]
theorem brAll_one {α β : Type} (f : α → Option (List β)) (q : α) : brAll f [q] = f q := both_nil _
theorem brAll_none {α β : Type} {f : α → Option (List β)} {qs : List α} {q : α} (h : q ∈ qs) (hq : f q = none) : brAll f qs = none := by
  induction qs with
  | nil => cases h
  | cons x qs ih =>
    rcases List.mem_cons.1 h with rfl | h
    · rw [brAll, hq, both_none]
    · rw [brAll, ih h, both_none']
theorem brAll_congr {α β : Type} {f g : α → Option (List β)} {qs : List α} (h : ∀ q ∈ qs, f q = g q) : brAll f qs = brAll g qs := by
  induction qs with
  | nil => rfl
  | cons x qs ih => rw [brAll, brAll, h x (by simp), ih (fun q hq => h q (by simp [hq]))]
/-- The branch to which a pointer leads: itself and all below it, each ahead of what is below it. -/
def br (s : St) : Nat → P5 → Int → Option Br
  | 0, p, birth => if brOk s 0 birth p then some [(p, 0)] else none
  | l + 1, p, birth => if brOk s (l + 1) birth p ∧ (fanB p (readC s p).1).2 = true then
      (brAll (fun q => br s l q p.b) (fanB p (readC s p).1).1).map fun L => (p, l + 1) :: L
    else none
theorem br_zero (s : St) (p : P5) (birth : Int) : br s 0 p birth = if brOk s 0 birth p then some [(p, 0)] else none := by rw [br]
theorem br_succ (s : St) (l : Nat) (p : P5) (birth : Int) : br s (l + 1) p birth = if brOk s (l + 1) birth p ∧ (fanB p (readC s p).1).2 = true then
      (brAll (fun q => br s l q p.b) (fanB p (readC s p).1).1).map fun L => (p, l + 1) :: L
    else none := by rw [br]
theorem brOk_birth {s : St} {l : Nat} {birth : Int} {p : P5} : brOk s l birth p ↔ p.b ≤ birth ∧ brOk s l p.b p := by
  unfold brOk
  constructor
  · rintro ⟨a, b, c⟩; exact ⟨b, a, Int.le_refl _, c⟩
  · rintro ⟨b, a, _, c⟩; exact ⟨a, b, c⟩
theorem br_birth (s : St) (l : Nat) (p : P5) (birth : Int) : br s l p birth = if p.b ≤ birth then br s l p p.b else none := by
  cases l with
  | zero =>
    rw [br_zero, br_zero]
    by_cases h : p.b ≤ birth
    · rw [if_pos h]
      by_cases h2 : brOk s 0 p.b p
      · rw [if_pos h2, if_pos (brOk_birth.2 ⟨h, h2⟩)]
      · rw [if_neg h2, if_neg (fun e => h2 (brOk_birth.1 e).2)]
    · rw [if_neg h, if_neg (fun e => h (brOk_birth.1 e).1)]
  | succ l =>
    rw [br_succ, br_succ]
    by_cases h : p.b ≤ birth
    · rw [if_pos h]
      by_cases h2 : brOk s (l + 1) p.b p ∧ (fanB p (readC s p).1).2 = true
      · rw [if_pos h2, if_pos ⟨brOk_birth.2 ⟨h, h2.1⟩, h2.2⟩]
      · rw [if_neg h2, if_neg (fun e => h2 ⟨(brOk_birth.1 e.1).2, e.2⟩)]
    · rw [if_neg h, if_neg (fun e => h (brOk_birth.1 e.1).1)]
/-- The pointers of the places of a branch. -/
def lv (L : Br) : List P5 := (L.filter fun x => x.2 == 0).map (·.1)
theorem lv_append (a b : Br) : lv (a ++ b) = lv a ++ lv b := by simp [lv]
theorem lv_up (p : P5) (l : Nat) (L : Br) : lv ((p, l + 1) :: L) = lv L := by simp [lv]
theorem lv_zero (p : P5) : lv [(p, 0)] = [p] := rfl

/-- What is below a pointer, as the meaning goes. -/
def belS (s : St) (p : P5) (l : Nat) : Option (List P5) :=
  if p.hole = true then some hole4
  else if p.ok = true ∧ p.e = (l : Int) ∧ p.b ≤ s.txg ∧ (readC s p).2 = true ∧ (∀ q ∈ (Fx.fanR (readC s p).1).1, q.b ≤ p.b) ∧ (Fx.fanR (readC s p).1).2 = true then some (Fx.fanR (readC s p).1).1
  else none
def expS (s : St) (l : Nat) (ps : List P5) : Option (List P5) := brAll (fun p => belS s p l) ps
/-- .. all levels. -/
def levS (s : St) : Nat → List P5 → Option (List P5)
  | 0, ps => some ps
  | l + 1, ps => (expS s (l + 1) ps).bind (levS s l)
theorem levS_append (s : St) (l : Nat) : ∀ a b : List P5, levS s l (a ++ b) = both (levS s l a) (levS s l b) := by
  induction l with
  | zero => intro a b; rfl
  | succ l ih =>
    intro a b
    simp only [levS, expS, brAll_append]
    cases brAll (fun p => belS s p (l + 1)) a with
    | none => rfl
    | some x =>
      cases brAll (fun p => belS s p (l + 1)) b with
      | none => simp
      | some y => simp only [both_some, Option.bind_some]; exact ih x y
/-- A pointer of a place. -/
def leafG (s : St) (p : P5) : Prop := p.hole = true ∨ ((readC s p).2 = true ∧ p.e = 0 ∧ p.b ≤ s.txg)
instance (s : St) (p : P5) : Decidable (leafG s p) := by unfold leafG; infer_instance
def good (s : St) (o : Option (List P5)) : Option (List P5) := o.bind fun Q => if ∀ q ∈ Q, leafG s q then some Q else none
theorem good_both (s : St) (a b : Option (List P5)) : good s (both a b) = both (good s a) (good s b) := by
  cases a with
  | none => rfl
  | some x =>
    cases b with
    | none => simp [good]
    | some y =>
      simp only [both_some, good, Option.bind_some]
      by_cases hx : ∀ q ∈ x, leafG s q
      · by_cases hy : ∀ q ∈ y, leafG s q
        · rw [if_pos hx, if_pos hy, if_pos (fun q hq => (List.mem_append.1 hq).elim (hx q) (hy q)), both_some]
        · rw [if_neg hy, if_neg (fun h => hy fun q hq => h q (List.mem_append.2 (.inr hq))), both_none']
      · rw [if_neg hx, if_neg (fun h => hx fun q hq => h q (List.mem_append.2 (.inl hq))), both_none]
theorem map_both (a b : Option Br) : (both a b).map lv = both (a.map lv) (b.map lv) := by
  cases a <;> cases b <;> simp [lv_append]
theorem hole_read {s : St} {p : P5} (h : p.hole = true) : (readC s p).2 = true := by rw [readC_hole h]
theorem hole_zero {p : P5} (h : p.hole = true) : p = P5.zero := by
  obtain ⟨a, b, c, d, e⟩ := p
  simp only [P5.hole, isHole, same, Bool.and_eq_true, beq_iff_eq] at h
  obtain ⟨⟨⟨⟨rfl, rfl⟩, rfl⟩, rfl⟩, rfl⟩ := h
  rfl
theorem belS_eq {s : St} {p : P5} {l : Nat} (hp : p.ok = true) (hb : p.b ≤ s.txg) :
    belS s p l = if (brOk s l p.b p ∧ (fanB p (readC s p).1).2 = true) ∧ ∀ q ∈ (fanB p (readC s p).1).1, q.b ≤ p.b then some (fanB p (readC s p).1).1 else none := by
  unfold belS fanB
  by_cases hh : p.hole = true
  · rw [if_pos hh, if_pos hh, if_pos]
    refine ⟨⟨⟨hole_read hh, Int.le_refl _, .inl hh⟩, rfl⟩, fun q hq => ?_⟩
    simp only [hole4, List.mem_cons, List.not_mem_nil, or_false, or_self] at hq
    rw [hq, hole_zero hh]
    exact Int.le_refl _
  · rw [if_neg hh, if_neg hh]
    by_cases hc : p.ok = true ∧ p.e = (l : Int) ∧ p.b ≤ s.txg ∧ (readC s p).2 = true ∧ (∀ q ∈ (Fx.fanR (readC s p).1).1, q.b ≤ p.b) ∧ (Fx.fanR (readC s p).1).2 = true
    · rw [if_pos hc, if_pos ⟨⟨⟨hc.2.2.2.1, Int.le_refl _, .inr hc.2.1⟩, hc.2.2.2.2.2⟩, hc.2.2.2.2.1⟩]
    · rw [if_neg hc, if_neg]
      rintro ⟨⟨⟨a, _, b⟩, c⟩, d⟩
      exact hc ⟨hp, b.resolve_left hh, hb, a, d, c⟩
/-- Depth first and breadth first agree. -/
theorem br_lev (s : St) (l : Nat) : ∀ ps : List P5, (∀ p ∈ ps, p.ok = true ∧ p.b ≤ s.txg) → (brAll (fun p => br s l p p.b) ps).map lv = good s (levS s l ps) := by
  induction l with
  | zero =>
    intro ps h
    induction ps with
    | nil => rfl
    | cons p ps ih =>
      have ih := ih fun q hq => h q (by simp [hq])
      rw [brAll, map_both, ih, br_zero, show p :: ps = [p] ++ ps from rfl, levS_append, good_both]
      congr 1
      simp only [levS, good, Option.bind_some, List.mem_singleton, forall_eq]
      by_cases hk : brOk s 0 p.b p
      · rw [if_pos hk, if_pos]
        · rfl
        · obtain ⟨a, _, c⟩ := hk
          exact c.imp id fun c => ⟨a, c, (h p (by simp)).2⟩
      · rw [if_neg hk, if_neg]
        · rfl
        · rintro (c | c)
          · exact hk ⟨hole_read c, Int.le_refl _, .inl c⟩
          · exact hk ⟨c.1, Int.le_refl _, .inr c.2.1⟩
  | succ l ihl =>
    intro ps h
    induction ps with
    | nil => exact ihl [] (fun p hp => by cases hp)
    | cons p ps ih =>
      have ih := ih fun q hq => h q (by simp [hq])
      have hp := h p (by simp)
      rw [brAll, map_both, ih, show p :: ps = [p] ++ ps from rfl, levS_append, good_both]
      congr 1
      rw [br_succ]
      simp only [levS, expS, brAll_one, belS_eq hp.1 hp.2]
      by_cases hk : brOk s (l + 1) p.b p ∧ (fanB p (readC s p).1).2 = true
      · rw [if_pos hk]
        by_cases hq : ∀ q ∈ (fanB p (readC s p).1).1, q.b ≤ p.b
        · rw [if_pos ⟨hk, hq⟩, Option.bind_some, ← ihl _ (fun q hm => ⟨fanB_ok hm, Int.le_trans (hq q hm) hp.2⟩), brAll_congr (g := fun q => br s l q q.b) (fun q hm => by rw [br_birth, if_pos (hq q hm)]), Option.map_map]
          congr 1
        · rw [if_neg (fun e => hq e.2)]
          have : ∃ q, q ∈ (fanB p (readC s p).1).1 ∧ ¬ q.b ≤ p.b := by
            by_cases e : ∃ q, q ∈ (fanB p (readC s p).1).1 ∧ ¬ q.b ≤ p.b
            · exact e
            · exact absurd (fun q hm => Decidable.byContradiction fun hn => e ⟨q, hm, hn⟩) hq
          obtain ⟨q, hm, hn⟩ := this
          rw [brAll_none hm (by rw [br_birth, if_neg hn])]
          rfl
      · rw [if_neg hk, if_neg (fun e => hk e.1)]
        rfl

/-- A tree. -/
structure Tr where
  root : P5
  depth : Int
  many : Int
def depthOf (many : Int) : Nat := if many ≤ 1 then 0 else if many ≤ 4 then 1 else 2
theorem depthOf_le (m : Int) : depthOf m ≤ 2 := by unfold depthOf; split <;> (try split) <;> omega
/-- The parts of a tree are in their ranges. -/
def formT (t : Tr) : Prop := (0 ≤ t.many ∧ t.many ≤ 16) ∧ t.depth = (depthOf t.many : Int) ∧ t.root.ok = true
instance (t : Tr) : Decidable (formT t) := by unfold formT; infer_instance
/-- A pointer of a place in a tree of so many. -/
def leafT (s : St) (many : Int) (i : Nat) (p : P5) : Prop := p.hole = true ∨ ((readC s p).2 = true ∧ p.e = 0 ∧ p.b ≤ s.txg ∧ (i : Int) < many)
instance (s : St) (many : Int) (i : Nat) (p : P5) : Decidable (leafT s many i p) := by unfold leafT; infer_instance
def leavesT (s : St) (t : Tr) : Option (List P5) := levS s (depthOf t.many) [t.root]
def allT (s : St) (many : Int) (Q : List P5) : Prop := ∀ i, i < Q.length → leafT s many i (Q.getD i P5.zero)
instance (s : St) (many : Int) (Q : List P5) : Decidable (allT s many Q) := by unfold allT; infer_instance
/-- A tree is valid in a store that is, as the meaning goes. -/
def okT (s : St) (t : Tr) : Bool := decide (formT t) && match leavesT s t with
  | none => false
  | some Q => decide (allT s t.many Q)
/-- What a plant has behind its places: holes. -/
def emptyFrom (many : Int) (Q : List P5) : Prop := ∀ i, i < Q.length → many ≤ (i : Int) → (Q.getD i P5.zero).hole = true
instance (many : Int) (Q : List P5) : Decidable (emptyFrom many Q) := by unfold emptyFrom; infer_instance
/-- .. as the program goes. -/
def plantT (s : St) (t : Tr) : Option Br := if formT t then
    (br s (depthOf t.many) t.root s.txg).bind fun L => if emptyFrom t.many (lv L) then some L else none
  else none
theorem plant_eq {s : St} {t : Tr} (h0 : 0 ≤ s.txg) : (plantT s t).map lv = if okT s t = true then leavesT s t else none := by
  unfold plantT okT
  by_cases hf : formT t
  · rw [if_pos hf, br_birth]
    simp only [hf, decide_true, Bool.true_and]
    unfold leavesT
    by_cases hb : t.root.b ≤ s.txg
    · rw [if_pos hb]
      have h := br_lev s (depthOf t.many) [t.root] (fun p hp => by rw [List.mem_singleton.1 hp]; exact ⟨hf.2.2, hb⟩)
      rw [brAll_one] at h
      cases hq : levS s (depthOf t.many) [t.root] with
      | none =>
        rw [hq] at h
        simp only [good, Option.bind_none, Option.map_eq_none_iff] at h
        rw [h]
        rfl
      | some Q =>
        rw [hq] at h
        simp only [good, Option.bind_some] at h
        simp only [decide_eq_true_eq]
        by_cases hg : ∀ q ∈ Q, leafG s q
        · rw [if_pos hg] at h
          obtain ⟨L, hL, rfl⟩ := Option.map_eq_some_iff.1 h
          rw [hL, Option.bind_some]
          by_cases he : emptyFrom t.many (lv L)
          · rw [if_pos he, if_pos, Option.map_some]
            intro i hi
            have hm := hg _ (List.getElem_mem hi)
            have he := he i hi
            rw [List.getD_eq_getElem?_getD, List.getElem?_eq_getElem hi, Option.getD_some] at *
            rcases hm with hm | hm
            · exact .inl hm
            · by_cases hlt : (i : Int) < t.many
              · exact .inr ⟨hm.1, hm.2.1, hm.2.2, hlt⟩
              · exact .inl (he (by omega))
          · rw [if_neg he, if_neg, Option.map_none]
            intro ha
            refine he fun i hi hn => ?_
            rcases ha i hi with ha | ha
            · exact ha
            · omega
        · rw [if_neg hg] at h
          simp only [Option.map_eq_none_iff] at h
          rw [h, Option.bind_none, Option.map_none, if_neg]
          intro ha
          refine hg fun q hq => ?_
          obtain ⟨i, hi, rfl⟩ := List.mem_iff_getElem.1 hq
          have := ha i hi
          rw [List.getD_eq_getElem?_getD, List.getElem?_eq_getElem hi, Option.getD_some] at this
          exact this.imp id fun h => ⟨h.1, h.2.1, h.2.2.1⟩
    · rw [if_neg hb]
      have : (match levS s (depthOf t.many) [t.root] with | none => false | some Q => decide (allT s t.many Q)) = false := by
        have hnh : ¬ t.root.hole = true := fun hh => hb (by rw [hole_zero hh]; exact h0)
        generalize depthOf t.many = d
        cases d with
        | zero =>
          simp only [levS, decide_eq_false_iff_not]
          intro ha
          rcases ha 0 (by simp) with h | h
          · exact hnh h
          · exact hb h.2.2.1
        | succ d =>
          have : belS s t.root (d + 1) = none := by unfold belS; rw [if_neg hnh, if_neg (fun h => hb h.2.2.1)]
          simp only [levS, expS, brAll_one, this, Option.bind_none]
      rw [this]
      rfl
  · rw [if_neg hf]
    simp [hf]
end Go.Proofs.YtjmfefaoenmppaaGreatDoor

namespace Go.Proofs.YtjmfefaoenmppaaGreatDoor
open Go.RowKit

def ptrV (g : Nat) : Value := .pointer (some ⟨g, 0, none⟩)
def ptrVs (gs : List Nat) : List Value := gs.map ptrV
theorem ptrVs_len (gs : List Nat) : (ptrVs gs).length = gs.length := by simp [ptrVs]
theorem ptrVs_app (a b : List Nat) : ptrVs (a ++ b) = ptrVs a ++ ptrVs b := by simp [ptrVs]
theorem ptrVs_at (gs : List Nat) (k : Nat) (h : k < gs.length) : (ptrVs gs)[k]? = some (ptrV gs[k]) := by simp [ptrVs, h]
theorem ptrVs_one (gs : List Nat) : ∀ u ∈ ptrVs gs, u.oneCell' = true := fun u hu => by
  obtain ⟨x, _, rfl⟩ := List.mem_map.1 hu
  rfl
/-- The block of a branch. -/
def Nd (W : World) (g : Nat) (p : P5) (l : Nat) (A : Option Addr) (n c : Nat) : Prop :=
  W.heap[g]? = some (.cells #[.int .i64 p.a, .int .i64 p.b, .int .i64 p.c, .int .i64 p.d, .int .i64 p.e, .int .i64 (l : Int), .slice A n c] 96 (0, 0))
section
variable {W W' : World} {g : Nat} {p : P5} {l : Nat} {A : Option Addr} {n c : Nat}
theorem Nd.lt (h : Nd W g p l A n c) : g < W.heap.size := (Array.getElem?_eq_some_iff.1 h).1
theorem Nd.below (h : Nd W g p l A n c) (hb : Below W.heap.size W W') : Nd W' g p l A n c := (hb.block g h.lt).trans h
theorem Nd.alloc (h : Nd W g p l A n c) (o : Obj) : Nd (W.alloc o) g p l A n c := (Below.heap_alloc W o g h.lt).trans h
theorem Nd.drew (h : Nd W g p l A n c) : Nd W.drew g p l A n c := h
theorem Nd.cells (h : Nd W g p l A n c) : W.cell? ⟨g, 0, none⟩ = some (.int .i64 p.a) ∧ W.cell? ⟨g, 1, none⟩ = some (.int .i64 p.b) ∧ W.cell? ⟨g, 2, none⟩ = some (.int .i64 p.c) ∧ W.cell? ⟨g, 3, none⟩ = some (.int .i64 p.d) ∧ W.cell? ⟨g, 4, none⟩ = some (.int .i64 p.e) ∧ W.cell? ⟨g, 5, none⟩ = some (.int .i64 (l : Int)) ∧ W.cell? ⟨g, 6, none⟩ = some (.slice A n c) := by
  unfold Nd at h
  simp [World.cell?, h]
theorem Nd.free (h : Nd W g p l A n c) (k : Nat) : W.frozen? ⟨g, k, none⟩ = false := by
  unfold Nd at h
  simp [World.frozen?, h]
theorem Nd.set (h : Nd W g p l A n c) {q : Addr} (hq : g ≠ q.block) (u : Value) : Nd (W.setCell q u) g p l A n c := (Below.heap_setCell W q u g hq).trans h
theorem Nd.grown {r : Option Nat} (h : Nd W g p l A n c) (hg : W.grownBy W' r) (hr : some g ≠ r) : Nd W' g p l A n c := (hg.block g h.lt hr).trans h
end
theorem Nd.new (w : World) (p : P5) (l : Nat) (A : Option Addr) (n c : Nat) : Nd (w.alloc (.cells #[.int .i64 p.a, .int .i64 p.b, .int .i64 p.c, .int .i64 p.d, .int .i64 p.e, .int .i64 (l : Int), .slice A n c] 96)) w.heap.size p l A n c := heap_alloc_new w _
/-- Branches of one level, each with all that is below it. -/
def Kids (T : Nat → Br → List Nat → Prop) (hs : List Nat) (X : List (Br × List Nat)) : Prop := X.length = hs.length ∧ ∀ j (h : j < hs.length) (k : j < X.length), T hs[j] X[j].1 X[j].2
def catB (X : List (Br × List Nat)) : Br := X.flatMap (·.1)
def catN (X : List (Br × List Nat)) : List Nat := X.flatMap (·.2)
theorem catN_next (X : List (Br × List Nat)) (j : Nat) (h : j < X.length) : catN (X.take (j + 1)) = catN (X.take j) ++ X[j].2 := by
  unfold catN
  rw [List.take_succ_eq_append_getElem h, List.flatMap_append]
  simp
theorem catN_le (X : List (Br × List Nat)) (j : Nat) : (catN (X.take j)).length ≤ (catN X).length := by
  have h : catN X = catN (X.take j) ++ catN (X.drop j) := by unfold catN; rw [← List.flatMap_append, List.take_append_drop]
  rw [h, List.length_append]
  omega
theorem catN_part (X : List (Br × List Nat)) (j : Nat) (h : j < X.length) : (catN (X.take j)).length + X[j].2.length ≤ (catN X).length := by
  have := catN_le X (j + 1)
  rw [catN_next X j h, List.length_append] at this
  exact this
/-- A branch in memory, of a level; the branches and their blocks, each ahead of those below it; all blocks of it are of a kind. -/
def TrAt (W : World) (P : Nat → Prop) : Nat → Nat → Br → List Nat → Prop
  | 0, g, L, gs => ∃ p, L = [(p, 0)] ∧ gs = [g] ∧ Nd W g p 0 none 0 0 ∧ P g
  | l + 1, g, L, gs => ∃ p A c hs X, hs.length = 4 ∧ Kids (TrAt W P l) hs X ∧ L = (p, l + 1) :: catB X ∧ gs = g :: catN X ∧ Nd W g p (l + 1) A hs.length c ∧ P g ∧ Lies W A (ptrVs hs) ∧ ∀ a, A = some a → P a.block
theorem Lies.moved {W W' : World} {A : Option Addr} {xs : List Value} (h : Lies W A xs) (hs : W.heap.size ≤ W'.heap.size) (hm : ∀ a, A = some a → W'.heap[a.block]? = W.heap[a.block]?) : Lies W' A xs := by
  intro h0
  obtain ⟨b, off, rfl, hlt, hc⟩ := h h0
  exact ⟨b, off, rfl, Nat.lt_of_lt_of_le hlt hs, fun j v hj => (World.cell?_of_block (a := ⟨b, off + j, none⟩) (show W'.heap[b]? = W.heap[b]? from hm ⟨b, off, none⟩ rfl)).trans (hc j v hj)⟩
theorem TrAt.moved {W W' : World} {P : Nat → Prop} (hs : W.heap.size ≤ W'.heap.size) (hm : ∀ k, k < W.heap.size → P k → W'.heap[k]? = W.heap[k]?) : ∀ {l g : Nat} {L : Br} {gs : List Nat}, TrAt W P l g L gs → TrAt W' P l g L gs
  | 0, _, _, _, ⟨p, h1, h2, h3, h4⟩ => ⟨p, h1, h2, (hm _ h3.lt h4).trans h3, h4⟩
  | _ + 1, _, _, _, ⟨p, A, c, hs', X, h1, h2, h3, h4, h5, h6, h7, h8⟩ => ⟨p, A, c, hs', X, h1, ⟨h2.1, fun j h k => (h2.2 j h k).moved hs hm⟩, h3, h4, (hm _ h5.lt h6).trans h5, h6, by
      refine Lies.moved h7 hs fun a ha => hm _ ?_ (h8 a ha)
      obtain ⟨b, off, e, hlt, _⟩ := h7 (by rw [ptrVs_len]; omega)
      rw [ha] at e
      injection e with e
      rw [e]
      exact hlt, h8⟩
theorem TrAt.mono {W : World} {P Q : Nat → Prop} (hq : ∀ k, k < W.heap.size → P k → Q k) : ∀ {l g : Nat} {L : Br} {gs : List Nat}, TrAt W P l g L gs → TrAt W Q l g L gs
  | 0, _, _, _, ⟨p, h1, h2, h3, h4⟩ => ⟨p, h1, h2, h3, hq _ h3.lt h4⟩
  | _ + 1, _, _, _, ⟨p, A, c, hs', X, h1, h2, h3, h4, h5, h6, h7, h8⟩ => ⟨p, A, c, hs', X, h1, ⟨h2.1, fun j h k => (h2.2 j h k).mono hq⟩, h3, h4, h5, hq _ h5.lt h6, h7, fun a ha => by
      refine hq _ ?_ (h8 a ha)
      obtain ⟨b, off, e, hlt, _⟩ := h7 (by rw [ptrVs_len]; omega)
      rw [ha] at e
      injection e with e
      rw [e]
      exact hlt⟩
theorem TrAt.below {W W' : World} {P : Nat → Prop} (hb : Below W.heap.size W W') {l g : Nat} {L : Br} {gs : List Nat} (h : TrAt W P l g L gs) : TrAt W' P l g L gs :=
  h.moved hb.size fun k hk _ => hb.block k hk
/-- All branches of a list lie in their blocks. -/
def AllAt (W : World) (L : Br) (gs : List Nat) : Prop := gs.length = L.length ∧ ∀ j (h : j < gs.length) (k : j < L.length), ∃ A n c, Nd W gs[j] L[j].1 L[j].2 A n c
theorem AllAt.below {W W' : World} {L : Br} {gs : List Nat} (h : AllAt W L gs) (hb : Below W.heap.size W W') : AllAt W' L gs :=
  ⟨h.1, fun j h1 h2 => by obtain ⟨A, n, c, k⟩ := h.2 j h1 h2; exact ⟨A, n, c, k.below hb⟩⟩
theorem AllAt.nil (W : World) : AllAt W [] [] := ⟨rfl, fun j h => absurd h (by simp)⟩
theorem AllAt.cons {W : World} {g : Nat} {p : P5} {l : Nat} {A : Option Addr} {n c : Nat} {L : Br} {gs : List Nat} (h : Nd W g p l A n c) (k : AllAt W L gs) : AllAt W ((p, l) :: L) (g :: gs) := by
  refine ⟨by simp [k.1], fun j h1 h2 => ?_⟩
  cases j with
  | zero => exact ⟨A, n, c, h⟩
  | succ j => exact k.2 j (by simpa using h1) (by simpa using h2)
theorem AllAt.app {W : World} {L M : Br} {gs hs : List Nat} (h : AllAt W L gs) (k : AllAt W M hs) : AllAt W (L ++ M) (gs ++ hs) := by
  refine ⟨by simp [h.1, k.1], fun j h1 h2 => ?_⟩
  by_cases hj : j < gs.length
  · rw [List.getElem_append_left hj, List.getElem_append_left (by rw [← h.1]; exact hj)]
    exact h.2 j hj _
  · have e : L.length = gs.length := h.1.symm
    rw [List.length_append] at h1 h2
    have h3 : j - gs.length < hs.length := by omega
    have h4 : j - L.length < M.length := by omega
    rw [List.getElem_append_right (by omega), List.getElem_append_right (by omega)]
    have := k.2 (j - gs.length) h3 (by omega)
    simp only [e]
    exact this
theorem all_cat {W : World} {X : List (Br × List Nat)} (h : ∀ x ∈ X, AllAt W x.1 x.2) : AllAt W (catB X) (catN X) := by
  induction X with
  | nil => exact AllAt.nil W
  | cons x X ih =>
    unfold catB catN
    rw [List.flatMap_cons, List.flatMap_cons]
    exact (h x (by simp)).app (ih fun y hy => h y (by simp [hy]))
theorem TrAt.all {W : World} {P : Nat → Prop} : ∀ {l g : Nat} {L : Br} {gs : List Nat}, TrAt W P l g L gs → AllAt W L gs
  | 0, _, _, _, ⟨p, h1, h2, h3, _⟩ => by rw [h1, h2]; exact AllAt.cons h3 (AllAt.nil W)
  | _ + 1, _, _, _, ⟨p, A, c, hs, X, h1, h2, h3, h4, h5, _, h6, _⟩ => by
    rw [h3, h4]
    refine AllAt.cons h5 (all_cat fun x hx => ?_)
    obtain ⟨j, hj, rfl⟩ := List.mem_iff_getElem.1 hx
    exact (h2.2 j (by rw [← h2.1]; exact hj) hj).all
theorem lv_cat (X : List (Br × List Nat)) (n : Nat) (h : ∀ x ∈ X, (lv x.1).length = n) : (lv (catB X)).length = X.length * n := by
  induction X with
  | nil => simp [catB, lv]
  | cons x X ih =>
    unfold catB
    rw [List.flatMap_cons, lv_append, List.length_append, h x (by simp), List.length_cons, Nat.add_mul, Nat.one_mul, Nat.add_comm]
    congr 1
    exact ih fun y hy => h y (by simp [hy])
/-- So many places are below a branch. -/
theorem TrAt.places {W : World} {P : Nat → Prop} : ∀ {l g : Nat} {L : Br} {gs : List Nat}, TrAt W P l g L gs → (lv L).length = 4 ^ l
  | 0, _, _, _, ⟨p, h1, _⟩ => by rw [h1]; rfl
  | l + 1, _, _, _, ⟨p, A, c, hs, X, h1, h2, h3, _⟩ => by
    rw [h3, lv_up, lv_cat X (4 ^ l) (fun x hx => by
      obtain ⟨j, hj, rfl⟩ := List.mem_iff_getElem.1 hx
      exact (h2.2 j (by rw [← h2.1]; exact hj) hj).places), h2.1, h1, Nat.pow_succ, Nat.mul_comm]
theorem catN_len (X : List (Br × List Nat)) (n : Nat) (h : ∀ x ∈ X, x.2.length ≤ n) : (catN X).length ≤ X.length * n := by
  induction X with
  | nil => simp [catN]
  | cons x X ih =>
    unfold catN
    rw [List.flatMap_cons, List.length_append, List.length_cons, Nat.add_mul, Nat.one_mul]
    have h1 := h x (by simp)
    have h2 := ih fun y hy => h y (by simp [hy])
    unfold catN at h2
    omega
theorem TrAt.few {W : World} {P : Nat → Prop} : ∀ {l g : Nat} {L : Br} {gs : List Nat}, TrAt W P l g L gs → gs.length ≤ 5 ^ l
  | 0, _, _, _, ⟨p, _, h2, _⟩ => by rw [h2]; simp
  | l + 1, _, _, _, ⟨p, A, c, hs, X, h1, h2, _, h4, _⟩ => by
    have h5 := catN_len X (5 ^ l) (fun x hx => by
      obtain ⟨j, hj, rfl⟩ := List.mem_iff_getElem.1 hx
      exact (h2.2 j (by rw [← h2.1]; exact hj) hj).few)
    rw [h2.1, h1] at h5
    have h6 : 1 ≤ 5 ^ l := Nat.one_le_pow _ _ (by decide)
    rw [h4, List.length_cons, Nat.pow_succ]
    omega
def AllPost (gs : List Nat) (w : World) (e : Ending) (w' : World) : Prop :=
  ∃ A c, e = .returned (.slice A gs.length c) ∧ w'.ownsRow w.heap.size 72 1 (.slice A gs.length c) gs.length (ptrVs gs) ∧ Below w.heap.size w w'
theorem Tryz.info72 : (Tryz.prog.info? 72).map (fun i => (i.zero, i.size, i.bytes)) = some (some (.pointer none), 1, 8) := by kernel_rfl
theorem Kids.lies {W : World} {A : Option Addr} {hs : List Nat} (h : Lies W A (ptrVs hs)) (k : Nat) (hk : k < hs.length) : ∃ b off, A = some ⟨b, off, none⟩ ∧ b < W.heap.size ∧ W.cell? ⟨b, off + k, none⟩ = some (ptrV hs[k]) := by
  obtain ⟨b, off, e, hlt, hc⟩ := h (by rw [ptrVs_len]; omega)
  exact ⟨b, off, e, hlt, hc k _ (ptrVs_at hs k hk)⟩
end Go.Proofs.YtjmfefaoenmppaaGreatDoor

namespace Go.Proofs.YtjmfefaoenmppaaGreatDoor
open Go.RowKit

theorem spec_depth (m : Int) (w : World) : Calls Tryz.prog 73 #[.int .i64 m] w fun e w' => e = .returned (.int .i64 (depthOf m : Int)) ∧ w' = w := by
  unfold depthOf
  by_cases h1 : m ≤ 1
  · rw [if_pos h1]
    go_enter Tryz.func73, Tryz.ntmps73
    go_wp2
    go_ret
    exact ⟨rfl, rfl⟩
  · rw [if_neg h1]
    by_cases h4 : m ≤ 4
    · rw [if_pos h4]
      go_enter Tryz.func73, Tryz.ntmps73
      go_wp2
      go_ret
      exact ⟨rfl, rfl⟩
    · rw [if_neg h4]
      go_enter Tryz.func73, Tryz.ntmps73
      go_wp2
      go_ret
      exact ⟨rfl, rfl⟩

set_option maxRecDepth 100000 in
theorem impl_wide (l : Nat) (hl : l ≤ 2) (w : World) : Calls Tryz.prog 96 #[.int .i64 (l : Int)] w fun e w' => e = .returned (.int .i64 ((4 ^ l : Nat) : Int)) ∧ w' = w := by
  go_enter Tryz.func96, Tryz.ntmps96
  go_wp2
  go_loop [3, 5] (fun x i => ∃ k : Nat, k ≤ l ∧ i = .int .i64 k ∧ x = .int .i64 ((4 ^ k : Nat) : Int)) (fun _ i => l - (intOf i).toNat)
  case atStart => exact ⟨0, by omega, rfl, rfl⟩
  case round =>
    obtain ⟨k, hk, rfl, rfl⟩ := hrel
    by_cases hlt : k < l
    · have hlt' : (k : Int) < (l : Int) := by omega
      obtain ⟨z, hz⟩ : ∃ z : Int, z = ((4 ^ k : Nat) : Int) := ⟨_, rfl⟩
      have HN : Hid (((4 ^ (k + 1) : Nat) : Int) = z * 4) := Lib.hid (by rw [hz, Nat.pow_succ]; first | done | rfl)
      have hzb : 0 ≤ z ∧ z ≤ 4 := by rcases (show k = 0 ∨ k = 1 by omega) with rfl | rfl <;> simp [hz]
      rw [← hz]
      clear hz
      go_wp2
      go_round
      case rel => exact ⟨k + 1, by omega, by go_num, by rw [HN.out] <;> go_num⟩
      case measure => (simp [intOf]; try omega)
    · obtain rfl : k = l := by omega
      go_wp2
      go_ret
      exact ⟨rfl, rfl⟩

set_option maxRecDepth 100000 in
theorem impl_depth (m : Int) (hm : 0 ≤ m ∧ m ≤ 16) (w : World) : Calls Tryz.prog 77 #[.int .i64 m] w fun e w' => e = .returned (.int .i64 (depthOf m : Int)) ∧ w' = w := by
  have hd := depthOf_le m
  have hlow : ∀ k : Nat, k < depthOf m → ((4 ^ k : Nat) : Int) < m := fun k hk => by
    unfold depthOf at hk
    split at hk
    · omega
    · split at hk
      · rcases (show k = 0 by omega) with rfl; simp only [Nat.pow_zero]; omega
      · rcases (show k = 0 ∨ k = 1 by omega) with rfl | rfl
        · simp only [Nat.pow_zero]; omega
        · simp only [Nat.pow_one]; omega
  have htop : ¬ ((4 ^ depthOf m : Nat) : Int) < m := by
    unfold depthOf
    split
    · simp; omega
    · split
      · simp; omega
      · simp; omega
  obtain ⟨d, hdd⟩ : ∃ d, d = depthOf m := ⟨_, rfl⟩
  rw [← hdd] at hd hlow htop ⊢
  clear hdd
  go_enter Tryz.func77, Tryz.ntmps77
  go_wp2
  go_loop [3] (fun i => ∃ k : Nat, k ≤ d ∧ i = .int .i64 k) (fun i => d - (intOf i).toNat)
  case atStart => exact ⟨0, by omega, rfl⟩
  case round =>
    obtain ⟨k, hk, rfl⟩ := hrel
    have hW := fun w => impl_wide k (by omega) w
    by_cases hlt : k < d
    · have hz := hlow k hlt
      obtain ⟨z, hzz⟩ : ∃ z : Int, z = ((4 ^ k : Nat) : Int) := ⟨_, rfl⟩
      rw [← hzz] at hz hW
      clear hzz hlow htop
      go_wp2_with (go_at_call 96; refine (hW _).mono ?_; rintro r w2 ⟨rfl, rfl⟩)
      go_round
      case rel => exact ⟨k + 1, by omega, by go_num⟩
      case measure => (simp [intOf]; try omega)
    · obtain rfl : k = d := by omega
      obtain ⟨z, hzz⟩ : ∃ z : Int, z = ((4 ^ k : Nat) : Int) := ⟨_, rfl⟩
      rw [← hzz] at htop hW
      clear hzz hlow
      go_wp2_with (go_at_call 96; refine (hW _).mono ?_; rintro r w2 ⟨rfl, rfl⟩)
      go_ret
      exact ⟨rfl, rfl⟩

/-- So many holes, in a row of the call's own. -/
def HolesPost (n : Nat) (w : World) (e : Ending) (w' : World) : Prop :=
  ∃ g c, e = .returned (.slice (some ⟨g, 0, none⟩) n c) ∧ w'.ownsRow w.heap.size 40 5 (.slice (some ⟨g, 0, none⟩) n c) n (zeros n) ∧ Below w.heap.size w w'

set_option maxRecDepth 100000 in
theorem spec_holes (n : Nat) (hn : n ≤ 1000) (w : World) : Calls Tryz.prog 99 #[.int .i64 (n : Int)] w (HolesPost n w) := by
  obtain ⟨i0, hi, hz0, hz1, hz2⟩ := info_parts Tryz.info40
  go_enter Tryz.func99, Tryz.ntmps99
  go_wp2_with (refine wpList_make_full _ rfl _ _ 36 rfl w.heap.size 40 i0 (.agg #[.int .i64 0, .int .i64 0, .int .i64 0, .int .i64 0, .int .i64 0]) 5 Tryz.underlying36 hi hz0 hz1 _ _ _ _ n rfl rfl rfl rfl (by rw [hz2]; omega) (by unfold maxLen; omega) (Nat.le_refl _) ?_; intro w1 hown hgrow; rw [made_ptrs] at hown)
  go_ret
  exact ⟨_, _, rfl, hown, (Below.refl _ _).grown hgrow (Nat.le_refl _) (fun k e => by cases e)⟩

/-- A list of pointers is returned, or none. -/
def FbPost (r : List P5 × Bool) (w : World) (e : Ending) (w' : World) : Prop :=
  Below w.heap.size w w' ∧ ((r.2 = true ∧ ∃ g c : Nat, e = .returned (.tuple #[.slice (some ⟨g, 0, none⟩) r.1.length c, .bool true]) ∧ w.heap.size ≤ g ∧ PtrsAt w' g r.1) ∨
    (r.2 = false ∧ ∃ (A : Option Addr) (c : Nat), e = .returned (.tuple #[.slice A 0 c, .bool false])))
theorem ptrsAt_own {W : World} {base g c : Nat} {t : TypeId} {ps : List P5} (h : W.ownsRow base t 5 (.slice (some ⟨g, 0, none⟩) ps.length c) ps.length (flat ps)) : base ≤ g ∧ PtrsAt W g ps := by
  have hl := h.lt g rfl
  exact ⟨hl.1, hl.2, Fx.own_range h⟩

set_option maxRecDepth 100000 in
theorem impl_fanBelow (p : P5) (t : ByteArray) (w : World) (ht : t.size ≤ 1048576) (hE : Fx.Env w) : Calls Tryz.prog 98 #[.agg #[.int .i64 p.a, .int .i64 p.b, .int .i64 p.c, .int .i64 p.d, .int .i64 p.e], .string t] w (FbPost (fanB p t) w) := by
  obtain ⟨a, b, c, d, e⟩ := p
  have hM := fun W => m_hole a b c d e W
  obtain ⟨i0, hi, hz0, hz1, hz2⟩ := info_parts Tryz.info40
  by_cases hh : isHole a b c d e = true
  · have hv : fanB ⟨a, b, c, d, e⟩ t = (hole4, true) := if_pos hh
    rw [hv]
    rw [hh] at hM
    clear hv hh
    go_enter Tryz.func98, Tryz.ntmps98
    go_wp2_with (first | (go_at_call 68; refine (hM _).mono ?_; rintro r w2 ⟨rfl, rfl⟩) | (refine wpList_make_full _ rfl _ _ 36 rfl w.heap.size 40 i0 (.agg #[.int .i64 0, .int .i64 0, .int .i64 0, .int .i64 0, .int .i64 0]) 5 Tryz.underlying36 hi hz0 hz1 _ _ _ _ 4 rfl rfl rfl rfl (by rw [hz2]; omega) (by unfold maxLen; omega) (by simp; omega) ?_; intro w1 hown hgrow; rw [made_ptrs] at hown))
    go_ret2
    obtain ⟨h1, h2⟩ := ptrsAt_own (ps := hole4) hown
    simp only [World.size_alloc] at h2
    exact ⟨(bel_new (bel_new (Below.refl _ _) _) _).grown hgrow (by simp; omega) (fun k e => by cases e), .inl ⟨rfl, _, _, rfl, by omega, h2⟩⟩
  · have hh' : isHole a b c d e = false := by simpa using hh
    have hv : fanB ⟨a, b, c, d, e⟩ t = Fx.fanR t := if_neg hh
    have hF := fun W (hW : Below w.heap.size w W) => Fx.impl_fanget t W ht (hE.at hW)
    rw [hv]
    rw [hh'] at hM
    obtain ⟨r, hr⟩ : ∃ r, r = Fx.fanR t := ⟨_, rfl⟩
    rw [← hr] at hF ⊢
    clear hv hh hh' hE hr
    obtain ⟨L, q⟩ := r
    cases q with
    | true =>
      have hF2 : ∀ W, Below w.heap.size w W → Calls Tryz.prog 119 #[.string t] W fun e w' => ∃ g c : Nat, e = .returned (.tuple #[.slice (some ⟨g, 0, none⟩) L.length c, .bool true]) ∧ Below W.heap.size W w' ∧ W.heap.size ≤ g ∧ PtrsAt w' g L := fun W hW => (hF W hW).mono fun e w' ⟨hb, h⟩ => h.elim (fun ⟨_, g, c, he, ho⟩ => ⟨g, c, he, hb, ptrsAt_own ho⟩) (fun ⟨h, _⟩ => by cases h)
      have HF := Lib.hid hF2
      clear hF hF2
      go_enter Tryz.func98, Tryz.ntmps98
      go_wp2_with (first | (go_at_call 68; refine (hM _).mono ?_; rintro r w2 ⟨rfl, rfl⟩) | (go_at_call 119; refine (HF.out _ (bel_new (bel_new (Below.refl _ _) _) _)).mono ?_; rintro r w2 ⟨g, cp, rfl, hb2, hg, hp⟩))
      go_ret2
      simp only [World.size_alloc] at hg
      exact ⟨bel_then (bel_new (bel_new (Below.refl _ _) _) _) hb2, .inl ⟨rfl, _, _, rfl, by omega, hp⟩⟩
    | false =>
      have hF2 : ∀ W, Below w.heap.size w W → Calls Tryz.prog 119 #[.string t] W fun e w' => ∃ (A : Option Addr) (c : Nat), e = .returned (.tuple #[.slice A 0 c, .bool false]) ∧ Below W.heap.size W w' := fun W hW => (hF W hW).mono fun e w' ⟨hb, h⟩ => h.elim (fun ⟨h, _⟩ => by cases h) (fun ⟨_, A, c, he⟩ => ⟨A, c, he, hb⟩)
      have HF := Lib.hid hF2
      clear hF hF2
      go_enter Tryz.func98, Tryz.ntmps98
      go_wp2_with (first | (go_at_call 68; refine (hM _).mono ?_; rintro r w2 ⟨rfl, rfl⟩) | (go_at_call 119; refine (HF.out _ (bel_new (bel_new (Below.refl _ _) _) _)).mono ?_; rintro r w2 ⟨A, cp, rfl, hb2⟩))
      go_ret2
      exact ⟨bel_then (bel_new (bel_new (Below.refl _ _) _) _) hb2, .inr ⟨rfl, _, _, rfl⟩⟩
end Go.Proofs.YtjmfefaoenmppaaGreatDoor

namespace Go.Proofs.YtjmfefaoenmppaaGreatDoor
open Go.RowKit

set_option maxRecDepth 100000 in
set_option maxHeartbeats 4000000 in
theorem all_step (g : Nat) (p : P5) (l : Nat) (A : Option Addr) (c : Nat) (hs : List Nat) (X : List (Br × List Nat)) (w : World) (hN : Nd w g p l A hs.length c) (hL : Lies w A (ptrVs hs)) (hX : X.length = hs.length)
    (hK : ∀ j (h : j < hs.length) (k : j < X.length) W, Below w.heap.size w W → Calls Tryz.prog 67 #[ptrV hs[j]] W (AllPost X[j].2 W)) (hn : (catN X).length ≤ 1000) (h4 : hs.length ≤ 4) :
    Calls Tryz.prog 67 #[ptrV g] w (AllPost (g :: catN X) w) := by
  obtain ⟨i0, hi, hz0, hz1, hz2⟩ := info_parts Tryz.info72
  obtain ⟨x0, x1, x2, x3, x4, x5, x6⟩ := (hN.alloc (.cells #[.pointer (some ⟨g, 0, none⟩)] 72)).cells
  have o1 : (w.alloc (.cells #[ptrV g] 72)).ownsRow w.heap.size 72 1 (.slice (some ⟨w.heap.size, 0, none⟩) 1 1) 1 (ptrVs (g :: catN (X.take 0))) := World.ownsRow_lit (e := 72) (base := w.heap.size) (size := 1) w #[ptrV g] 1 (Nat.le_refl _) (by decide) rfl
  unfold ptrV at hK ⊢
  go_enter Tryz.func67, Tryz.ntmps67
  go_wp2_with fail
  clear x0 x1 x2 x3 x4 x5 x6
  go_loopg [3, 5, 13] hs.length (fun gh b _ i wr => ∃ (j g2 c2 m : Nat), gh = hs.length - j ∧ j ≤ hs.length ∧ i = .int .i64 j ∧ m = (catN (X.take j)).length + 1 ∧ b = .slice (some ⟨g2, 0, none⟩) m c2 ∧ wr.ownsRow w.heap.size 72 1 (.slice (some ⟨g2, 0, none⟩) m c2) m (ptrVs (g :: catN (X.take j))) ∧ Below w.heap.size w wr)
  case atStart => exact ⟨0, w.heap.size, 1, 1, by omega, by omega, rfl, rfl, rfl, o1, bel_new (Below.refl _ _) _⟩
  case round =>
    clear o1
    obtain ⟨j, g2, c2, m, hg, hj, rfl, hm2, rfl, ho, hb⟩ := hrel
    have HG := Lib.hid hg
    clear hg
    have s1 := hb.size
    by_cases hlt : j < hs.length
    · have hlt' : (j : Int) < (hs.length : Int) := by omega
      have hltX : j < X.length := by omega
      obtain ⟨bk, off, rfl, hlb, hck⟩ := Kids.lies (hL.below hb) j hlt
      have hC := hK j hlt hltX
      have hp := Lib.hid (catN_part X j hltX)
      have HN := Lib.hid (catN_next X j hltX)
      obtain ⟨h, hh⟩ : ∃ h, h = hs[j] := ⟨_, rfl⟩
      obtain ⟨xj, hxj⟩ : ∃ xj, xj = X[j].2 := ⟨_, rfl⟩
      rw [← hh] at hC hck
      rw [← hxj] at hC hp HN
      unfold ptrV at hck
      have HM := Lib.hid hm2
      clear hK hh hxj hm2
      go_wp2_with (first | (go_at_call 67; refine (hC _ hb).mono ?_; rintro r w2 ⟨A2, ca, rfl, ho3, hb2⟩; have ho2 := own_bel ho hb2; have B2 := bel_then hb hb2; have s2 := B2.size; obtain ⟨A3, c3, e3, hl3⟩ := own_lies ho3; injection e3 with eA en ec; subst eA; subst ec) | (at_builtin; refine wpList_append_lies2 _ rfl _ _ 93 rfl w.heap.size 72 i0 (.pointer none) 1 8 Tryz.underlying93 hi hz0 hz1 hz2 rfl (by decide) _ _ _ rfl ho2 A2 xj.length ca (ptrVs xj) rfl (by rw [ptrVs_len, Nat.mul_one]) hl3 (ptrVs_one xj) (by have := hp.out; have := HM.out; unfold maxLen; omega) (by have := hp.out; have := HM.out; omega) s2 ?_))
      intro v' w4 hown hgrow
      have R : w4.ownsRow w.heap.size 72 1 v' (m + xj.length) (ptrVs (g :: catN (X.take (j + 1)))) := by
        have e1 : g :: catN (X.take (j + 1)) = (g :: catN (X.take j)) ++ xj := by rw [HN.out]; rfl
        rw [e1, ptrVs_app]
        exact hown
      have B4 : Below w.heap.size w w4 := Fx.bel_row5 B2 ho2 (Nat.le_refl _) hgrow
      obtain ⟨g4, c4, rfl⟩ := Fx.own_form5 R (by have := HM.out; omega)
      clear hown hgrow ho ho2 ho3 hb hb2
      go_wp2_with fail
      go_roundg (hs.length - (j + 1))
      case measure => have := HG.out; omega
      case rel => exact ⟨j + 1, g4, c4, m + xj.length, rfl, by omega, by go_num, by rw [HN.out, List.length_append]; have := HM.out; omega, rfl, R, B4⟩
    · obtain rfl : j = hs.length := by omega
      have e : X.take hs.length = X := by rw [← hX]; exact List.take_length
      rw [e] at ho hm2
      have hm : (g :: catN X).length = m := by rw [List.length_cons, hm2]
      clear e hK HG
      have HO : Hid (∃ A c, Ending.returned (Value.slice (some ⟨g2, 0, none⟩) m c2) = .returned (.slice A (g :: catN X).length c) ∧ wr.ownsRow w.heap.size 72 1 (.slice A (g :: catN X).length c) (g :: catN X).length (ptrVs (g :: catN X)) ∧ Below w.heap.size w wr) := Lib.hid ⟨some ⟨g2, 0, none⟩, c2, by rw [hm], by rw [hm]; exact ho, hb⟩
      clear ho hm hm2
      go_wp2_with fail
      go_ret
      exact HO.out

theorem impl_all (P : Nat → Prop) (l : Nat) : ∀ (g : Nat) (L : Br) (gs : List Nat) (w : World), TrAt w P l g L gs → gs.length ≤ 1000 → Calls Tryz.prog 67 #[ptrV g] w (AllPost gs w) := by
  induction l with
  | zero =>
    rintro g L gs w ⟨p, rfl, rfl, hN, _⟩ hn
    exact all_step g p 0 none 0 [] [] w hN (Lies.nil _ _) rfl (fun j h => absurd h (by simp)) (by simp [catN]) (by simp)
  | succ l ih =>
    rintro g L gs w ⟨p, A, c, hs, X, h4, hK, rfl, rfl, hN, _, hL, _⟩ hn
    rw [List.length_cons] at hn
    refine all_step g p (l + 1) A c hs X w hN hL hK.1 (fun j h k W hW => ?_) (by omega) (by omega)
    exact ih _ X[j].1 X[j].2 W ((hK.2 j h k).below hW) (by have := catN_part X j k; omega)
end Go.Proofs.YtjmfefaoenmppaaGreatDoor

namespace Go.Proofs.YtjmfefaoenmppaaGreatDoor
open Go.RowKit

def pad (Q : List P5) : List P5 := Q ++ List.replicate (16 - Q.length) P5.zero
theorem pad_len {Q : List P5} (h : Q.length ≤ 16) : (pad Q).length = 16 := by unfold pad; rw [List.length_append, List.length_replicate]; omega
theorem flat_zero (n : Nat) : flat (List.replicate n P5.zero) = zeros n := by
  induction n with
  | zero => rfl
  | succ n ih => rw [List.replicate_succ, zeros_succ, ← ih]; rfl
theorem flat_pad (Q : List P5) : flat (pad Q) = flat Q ++ zeros (16 - Q.length) := by
  unfold pad
  rw [← flat_zero]
  unfold flat
  rw [List.flatMap_append]
theorem lv_next (L : Br) (j : Nat) (h : j < L.length) : lv (L.take (j + 1)) = if L[j].2 = 0 then lv (L.take j) ++ [L[j].1] else lv (L.take j) := by
  unfold lv
  rw [List.take_succ_eq_append_getElem h, List.filter_append, List.map_append]
  by_cases hz : L[j].2 = 0
  · rw [if_pos hz]; simp [hz]
  · rw [if_neg hz]; simp [hz]
theorem lv_take (L : Br) (j : Nat) : (lv L).take (lv (L.take j)).length = lv (L.take j) := by
  have h : lv L = lv (L.take j) ++ lv (L.drop j) := by rw [← lv_append, List.take_append_drop]
  rw [h, List.take_left]
theorem lv_in (L : Br) (j : Nat) (h : j < L.length) (hz : L[j].2 = 0) : ∃ hk : (lv (L.take j)).length < (lv L).length, (lv L)[(lv (L.take j)).length] = L[j].1 := by
  have h2 : lv L = lv (L.take j) ++ (L[j].1 :: lv (L.drop (j + 1))) := by
    have e : lv L = lv (L.take (j + 1)) ++ lv (L.drop (j + 1)) := by rw [← lv_append, List.take_append_drop]
    rw [e, lv_next L j h, if_pos hz, List.append_assoc]
    rfl
  have h3 : (lv L)[(lv (L.take j)).length]? = some L[j].1 := by rw [h2, List.getElem?_append_right (Nat.le_refl _), Nat.sub_self]; rfl
  obtain ⟨hk, e⟩ := List.getElem?_eq_some_iff.1 h3
  exact ⟨hk, e⟩
theorem setCells_bel {B : Nat} {a : World} {b : Nat} (hB : B ≤ b) : ∀ (vs : List Value) (o : Nat) {w : World}, Below B a w → Below B a (w.setCells b o vs)
  | [], _, _, h => h
  | v :: r, o, w, h => setCells_bel hB r (o + 1) (h.setCell (p := ⟨b, o, none⟩) hB v)
def LvPost (Q : List P5) (w : World) (e : Ending) (w' : World) : Prop := e = .returned (.agg (flat (pad Q)).toArray) ∧ Below w.heap.size w w'
theorem results_cell_mid {P : Program} {fn : Func} {p : Tmp} {ty : TypeId} (h : fn.results = #[.cell p ty]) (tmps : Array Value) (w : World) (b : Nat) (cs : List Value) (d : TypeDesc)
    (hp : tmps.getD p undef = .pointer (some ⟨b, 0, none⟩)) (hc : w.rangeAt b 0 cs)
    (hu : P.underlying ty = some d) (hd : d.isRow = true) (hi : (P.info? ty).map (·.size) = some cs.length) :
    (results fn tmps).run P w = .ok (.agg cs.toArray) w := by
  have hp' : tmps[p]?.getD undef = .pointer (some ⟨b, 0, none⟩) := by simpa using hp
  simp [results, h, hp', asAddr, run_loadVar_mid w b 0 ty cs d hc hu hd hi]
theorem info80 : (Tryz.prog.info? 80).map (·.size) = some 80 := by kernel_rfl
/-- A block of eighty zeros. -/
def Z80 (W : World) (g : Nat) : Prop := W.heap[g]? = some (.cells (List.replicate 80 (Value.int .i64 0)).toArray 80 (0, 0))
theorem Z80.lt {W : World} {g : Nat} (h : Z80 W g) : g < W.heap.size := (Array.getElem?_eq_some_iff.1 h).1
theorem Z80.below {W W' : World} {g : Nat} (h : Z80 W g) (hb : Below W.heap.size W W') : Z80 W' g := (hb.block g h.lt).trans h
theorem Z80.there {W : World} {g : Nat} (h : Z80 W g) : W.there g 0 80 := fun j hj => by
  unfold Z80 at h
  refine ⟨?_, by simp [World.frozen?, h]⟩
  rw [Nat.zero_add]
  simp [World.cell?, h, hj]

set_option maxRecDepth 100000 in
set_option maxHeartbeats 4000000 in
theorem impl_leaves (g : Nat) (many : Int) (L : Br) (gs : List Nat) (w : World) (hA : AllAt w L gs) (h16 : (lv L).length ≤ 16) (hn : gs.length ≤ 1000)
    (hC : ∀ W, Below w.heap.size w W → Calls Tryz.prog 67 #[ptrV g] W (AllPost gs W)) :
    Calls Tryz.prog 50 #[.agg #[ptrV g, .int .i64 many]] w (LvPost (lv L) w) := by
  unfold ptrV at hC ⊢
  go_enter Tryz.func50, Tryz.ntmps50
  go_upto_region 1 with fail
  generalize hw1 : World.alloc (World.alloc w _) _ = w1
  have x0 : w1.cell? ⟨w.heap.size, 0, none⟩ = some (.pointer (some ⟨g, 0, none⟩)) := by
    rw [← hw1, (Below.refl _ (w.alloc (.cells #[.pointer (some ⟨g, 0, none⟩), .int .i64 many] 74))).alloc (Nat.le_refl _) _ |>.cell (p := ⟨w.heap.size, 0, none⟩) (by simp), World.cell?_alloc_mark]
    rfl
  have z1 : Z80 w1 (w.heap.size + 1) := by rw [← hw1]; have := heap_alloc_new (w.alloc (.cells #[.pointer (some ⟨g, 0, none⟩), .int .i64 many] 74)) (.cells (List.replicate 80 (Value.int .i64 0)).toArray 80); rw [World.size_alloc] at this; exact this
  have B1 : Below w.heap.size w w1 := by rw [← hw1]; exact bel_new (bel_new (Below.refl _ _) _) _
  have s1 : w1.heap.size = w.heap.size + 1 + 1 := by rw [← hw1, World.size_alloc, World.size_alloc]
  clear hw1
  have H1 := Lib.hid s1
  clear s1
  go_upto_region 3 with fail
  generalize hw2 : World.alloc w1 _ = wa
  have o1 : wa.ownsRow w1.heap.size 80 5 (.slice (some ⟨w1.heap.size, 0, none⟩) 16 16) 16 (flat ((lv L).take 0) ++ zeros (16 - 0)) := by
    rw [← hw2]
    exact World.ownsRow_lit (e := 80) (size := 5) (base := w1.heap.size) w1 (List.replicate 80 (Value.int .i64 0)).toArray 16 (Nat.le_refl _) (by decide) rfl
  have B2 : Below w1.heap.size w1 wa := by rw [← hw2]; exact bel_new (Below.refl _ _) _
  have swa : w1.heap.size < wa.heap.size := by rw [← hw2, World.size_alloc]; exact Nat.lt_succ_self _
  clear hw2
  have x1 := (B2.cell (p := ⟨w.heap.size, 0, none⟩) (by have := H1.out; simp only; omega)).trans x0
  have BC := bel_then B1 B2
  clear x0
  go_wp2_with (go_at_call 67; refine (hC _ BC).mono ?_; rintro r w2 ⟨A2, ca, rfl, ho3, hb2⟩; refine Hid.out ?_)
  refine Lib.hid ?_
  have o2 := own_bel o1 hb2
  have B3 := bel_then B2 hb2
  have hA1 := hA.below B1
  clear o1 B2 BC x1 hA hC hb2
  go_wp2_with fail
  go_loopg [4, 6, 11] gs.length (fun gh kv _ i wr => ∃ (j k : Nat), gh = gs.length - j ∧ j ≤ gs.length ∧ i = .int .i64 j ∧ k = (lv (L.take j)).length ∧ kv = .int .i64 k ∧ wr.ownsRow w1.heap.size 80 5 (.slice (some ⟨w1.heap.size, 0, none⟩) 16 16) 16 (flat ((lv L).take k) ++ zeros (16 - k)) ∧ Below w1.heap.size w1 wr ∧ wr.ownsRow wa.heap.size 72 1 (.slice A2 gs.length ca) gs.length (ptrVs gs))
  case atStart => exact ⟨0, 0, by omega, by omega, rfl, rfl, rfl, o2, B3, ho3⟩
  case round =>
    clear o2 B3 ho3
    obtain ⟨j, k, hg, hj, rfl, hk, rfl, ho, hb, hr⟩ := hrel
    have hAA := hA1.below hb
    obtain ⟨A3, c3, e3, hL⟩ := own_lies hr
    injection e3 with eA en ec
    subst eA
    subst ec
    clear en
    have HG := Lib.hid hg
    clear hg
    by_cases hlt : j < gs.length
    · have hlt' : (j : Int) < (gs.length : Int) := by omega
      have hltL : j < L.length := by rw [← hAA.1]; exact hlt
      obtain ⟨bk, off, rfl, hlb, hck⟩ := Kids.lies hL j hlt
      obtain ⟨An, nn, cn, hN⟩ := hAA.2 j hlt hltL
      have hnx := lv_next L j hltL
      have hin := lv_in L j hltL
      obtain ⟨h, hh⟩ : ∃ h, h = gs[j] := ⟨_, rfl⟩
      obtain ⟨⟨p, lev⟩, hx⟩ : ∃ x, x = L[j] := ⟨_, rfl⟩
      rw [← hh] at hck hN
      rw [← hx] at hN hnx hin
      simp only at hN hnx hin
      unfold ptrV at hck
      obtain ⟨y0, y1, y2, y3, y4, y5, y6⟩ := hN.cells
      cases lev with
      | zero =>
        have hkl : k < (lv L).length := by rw [hk]; exact (hin rfl).1
        have hkv : (lv L)[k] = p := by have := (hin rfl).2; subst hk; exact this
        rw [if_pos rfl] at hnx
        have hk16 : k < 16 := by omega
        have hk16' : (k : Int) < 16 := by omega
        obtain ⟨m, hm⟩ : ∃ m, 16 - k = m + 1 := ⟨15 - k, by omega⟩
        have HM : Hid (16 - (k + 1) = m) := Lib.hid (by omega)
        have HN : Hid (k + 1 = (lv (L.take (j + 1))).length) := Lib.hid (by rw [hnx, List.length_append, ← hk]; rfl)
        rw [hm, zeros_succ, ← List.append_assoc] at ho
        obtain ⟨f0, f1, f2, f3, f4⟩ : (wr.frozen? ⟨w1.heap.size, k * 5, none⟩ = false ∧ wr.frozen? ⟨w1.heap.size, k * 5 + 1, none⟩ = false ∧ wr.frozen? ⟨w1.heap.size, k * 5 + 2, none⟩ = false ∧ wr.frozen? ⟨w1.heap.size, k * 5 + 3, none⟩ = false ∧ wr.frozen? ⟨w1.heap.size, k * 5 + 4, none⟩ = false) := ⟨ho.frozenAt (k * 5), ho.frozenAt (k * 5 + 1), ho.frozenAt (k * 5 + 2), ho.frozenAt (k * 5 + 3), ho.frozenAt (k * 5 + 4)⟩
        obtain ⟨v0, v1, v2, v3, v4⟩ := Fx.own_cells5t ho hkl hk16
        obtain ⟨pa, pb, pc, pd, pe⟩ := p
        have HR := Lib.hid (Fx.own_set5t ho hkl hkv)
        have HB := Lib.hid (((((hb.setCell (p := ⟨w1.heap.size, k * 5, none⟩) (Nat.le_refl _) (.int .i64 pa)).setCell (p := ⟨w1.heap.size, k * 5 + 1, none⟩) (Nat.le_refl _) (.int .i64 pb)).setCell (p := ⟨w1.heap.size, k * 5 + 2, none⟩) (Nat.le_refl _) (.int .i64 pc)).setCell (p := ⟨w1.heap.size, k * 5 + 3, none⟩) (Nat.le_refl _) (.int .i64 pd)).setCell (p := ⟨w1.heap.size, k * 5 + 4, none⟩) (Nat.le_refl _) (.int .i64 pe))
        have HO := Lib.hid (own_set (own_set (own_set (own_set (own_set hr (p := ⟨w1.heap.size, k * 5, none⟩) swa (.int .i64 pa)) (p := ⟨w1.heap.size, k * 5 + 1, none⟩) swa (.int .i64 pb)) (p := ⟨w1.heap.size, k * 5 + 2, none⟩) swa (.int .i64 pc)) (p := ⟨w1.heap.size, k * 5 + 3, none⟩) swa (.int .i64 pd)) (p := ⟨w1.heap.size, k * 5 + 4, none⟩) swa (.int .i64 pe))
        clear hm hnx hin hk hx hh hkv hAA hL hN hr ho hb hA1
        simp only at y0 y1 y2 y3 y4 y5
        go_wp2_with fail
        go_roundg (gs.length - (j + 1))
        case measure => have := HG.out; omega
        case rel => exact ⟨j + 1, k + 1, rfl, by omega, by go_num, HN.out, by go_num, by rw [HM.out]; exact HR.out, HB.out, HO.out⟩
      | succ lev =>
        rw [if_neg (by omega)] at hnx
        have hl0 : (((lev + 1 : Nat) : Int) == 0) = false := by rw [beq_eq_false_iff_ne]; omega
        have HN : Hid (k = (lv (L.take (j + 1))).length) := Lib.hid (by rw [hnx, ← hk])
        clear hnx hin hk hx hh hA1
        go_wp2_with fail
        go_roundg (gs.length - (j + 1))
        case measure => have := HG.out; omega
        case rel => exact ⟨j + 1, k, rfl, by omega, by go_num, HN.out, rfl, ho, hb, hr⟩
    · obtain rfl : j = gs.length := by omega
      have hfin : flat ((lv L).take k) ++ zeros (16 - k) = flat (pad (lv L)) := by
        have e : L.take gs.length = L := by rw [hAA.1]; exact List.take_length
        rw [e] at hk
        subst hk
        rw [List.take_length, flat_pad]
      rw [hfin] at ho
      have hR := Fx.own_range ho
      obtain ⟨cs, hcs⟩ : ∃ cs, cs = flat (pad (lv L)) := ⟨_, rfl⟩
      have hl : cs.length = 80 := by rw [hcs, flat_len, pad_len h16]
      have h1 : cs.toArray.all (·.oneCell') = true := by rw [hcs]; exact all_oneCell_toArray (flat_one _)
      rw [← hcs] at hR
      have HC := Lib.hid hcs
      have z2 := z1.below hb
      have HT : Hid (wr.there (w.heap.size + 1) 0 cs.toArray.size) := Lib.hid (by show wr.there (w.heap.size + 1) 0 cs.length; rw [hl]; exact z2.there)
      have HI : Hid ((Tryz.prog.info? 80).map (·.size) = some cs.toArray.size) := Lib.hid (by show _ = some cs.length; rw [hl]; exact info80)
      have HI2 : Hid ((Tryz.prog.info? 80).map (·.size) = some cs.length) := Lib.hid (by rw [hl]; exact info80)
      have H2 := Lib.hid h1
      have HRa := Lib.hid hR
      have HF := Lib.hid (setCells_bel (show w.heap.size ≤ w.heap.size + 1 by omega) cs 0 (bel_then B1 hb))
      have HS := Lib.hid (World.rangeAt_setCells_same wr (w.heap.size + 1) 0 cs (by rw [hl]; exact z2.there))
      clear hfin hR hcs hl h1 z2 z1 ho hb hr hAA hL hA1 hk B1
      go_wp2_with (first | (refine wpList_load_mid rfl 80 _ rfl w1.heap.size 0 rfl cs _ HRa.out Tryz.underlying80 rfl HI2.out ?_) | (refine wpList_store_mid rfl 80 _ _ rfl (w.heap.size + 1) 0 cs.toArray rfl rfl HT.out HI.out H2.out ?_))
      change bodyPost Tryz.prog Tryz.f50 _ Exit.ret _ (wr.setCells (w.heap.size + 1) 0 cs)
      have HF := HF.out
      have HS := HS.out
      have HC := HC.out
      have HI2 := HI2.out
      clear HRa HT HI
      generalize wr.setCells (w.heap.size + 1) 0 cs = WF at HF HS ⊢
      exact bodyPost_ret (v := .agg cs.toArray) (results_cell_mid rfl _ WF (w.heap.size + 1) cs _ rfl HS Tryz.underlying80 rfl HI2) rfl ⟨by rw [HC], HF⟩
end Go.Proofs.YtjmfefaoenmppaaGreatDoor
