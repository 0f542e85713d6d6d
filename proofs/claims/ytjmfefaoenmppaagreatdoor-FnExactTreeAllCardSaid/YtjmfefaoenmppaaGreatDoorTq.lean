/-
  All pointers of a tree that are no holes: each ahead of those below it. Pure.
-/
import Derived.Test.YtjmfefaoenmppaaGreatDoorTkb
namespace Go.Proofs.YtjmfefaoenmppaaGreatDoor
open Go.RowKit

/-- The pointers of a branch that are no holes, in order. -/
def nh (L : Br) : List P5 := (L.map (·.1)).filter fun p => !p.hole
theorem nh_append (a b : Br) : nh (a ++ b) = nh a ++ nh b := by simp [nh]
theorem nh_cons (p : P5) (l : Nat) (L : Br) : nh ((p, l) :: L) = (if p.hole = true then [] else [p]) ++ nh L := by
  unfold nh
  rw [List.map_cons, List.filter_cons]
  by_cases h : p.hole = true
  · rw [if_pos h, h]; rfl
  · have h' : p.hole = false := by simpa using h
    rw [if_neg h, h']; rfl
/-- What is below a hole: holes. -/
theorem br_hole {s : St} (l : Nat) : ∀ {p : P5} {birth : Int} {L : Br}, p.hole = true → br s l p birth = some L → nh L = [] := by
  induction l with
  | zero =>
    intro p birth L hp h
    rw [br_zero] at h
    split at h
    · injection h with h
      subst h
      rw [nh_cons, if_pos hp]; rfl
    · cases h
  | succ l ih =>
    intro p birth L hp h
    rw [br_succ] at h
    split at h
    · obtain ⟨M, hM, rfl⟩ := Option.map_eq_some_iff.1 h
      rw [nh_cons, if_pos hp, List.nil_append]
      have hq : (fanB p (readC s p).1).1 = hole4 := by unfold fanB; rw [if_pos hp]
      rw [hq] at hM
      have hz : P5.zero.hole = true := rfl
      unfold hole4 at hM
      simp only [brAll] at hM
      cases hb : br s l P5.zero p.b with
      | none => rw [hb] at hM; simp at hM
      | some Z =>
        rw [hb] at hM
        simp only [both_some] at hM
        injection hM with hM
        have := ih hz hb
        rw [← hM]
        simp only [nh_append, this, List.append_nil]
    · cases h
/-- A pointer of a level with the branch to which it leads. -/
structure Item (s : St) (x : P5 × Br) : Prop where
  ok : x.1.ok = true
  txg : x.1.b ≤ s.txg
  br : ∃ l, l ≤ 2 ∧ br s l x.1 x.1.b = some x.2
/-- What is to be told of a list of branches. -/
def told (X : List (P5 × Br)) : List P5 := X.flatMap fun x => nh x.2
def left (X : List (P5 × Br)) : Nat := (X.map fun x => x.2.length).sum
theorem told_cons (x : P5 × Br) (X : List (P5 × Br)) : told (x :: X) = nh x.2 ++ told X := by simp [told]
theorem told_app (X Y : List (P5 × Br)) : told (X ++ Y) = told X ++ told Y := by simp [told]
theorem left_cons (x : P5 × Br) (X : List (P5 × Br)) : left (x :: X) = x.2.length + left X := by simp [left]
theorem left_app (X Y : List (P5 × Br)) : left (X ++ Y) = left X + left Y := by simp [left]
theorem br_pos {s : St} {l : Nat} {p : P5} {birth : Int} {L : Br} (h : br s l p birth = some L) : 1 ≤ L.length := by
  cases l with
  | zero =>
    rw [br_zero] at h
    split at h
    · injection h with h; subst h; simp
    · cases h
  | succ l =>
    rw [br_succ] at h
    split at h
    · obtain ⟨M, _, rfl⟩ := Option.map_eq_some_iff.1 h; simp
    · cases h
theorem brAll_items {s : St} {l : Nat} (hl : l ≤ 2) : ∀ {qs : List P5} {M : Br}, (∀ q ∈ qs, q.ok = true ∧ q.b ≤ s.txg) → brAll (fun q => br s l q q.b) qs = some M → ∃ X : List (P5 × Br), X.map (·.1) = qs ∧ (∀ x ∈ X, Item s x) ∧ told X = nh M ∧ left X = M.length
  | [], M, _, h => by injection h with h; subst h; exact ⟨[], rfl, by simp, rfl, rfl⟩
  | q :: qs, M, hq, h => by
    rw [brAll] at h
    cases h1 : br s l q q.b with
    | none => rw [h1, both_none] at h; cases h
    | some A =>
      cases h2 : brAll (fun q => br s l q q.b) qs with
      | none => rw [h2, both_none'] at h; cases h
      | some B =>
        rw [h1, h2, both_some] at h
        injection h with h
        subst h
        obtain ⟨X, e1, e2, e3, e4⟩ := brAll_items hl (fun x hx => hq x (by simp [hx])) h2
        refine ⟨(q, A) :: X, by simp [e1], ?_, ?_, ?_⟩
        · intro x hx
          rcases List.mem_cons.1 hx with rfl | hx
          · exact ⟨(hq _ (by simp)).1, (hq _ (by simp)).2, l, hl, h1⟩
          · exact e2 x hx
        · rw [told_cons, e3, nh_append]
        · rw [left_cons, e4, List.length_append]
/-- One pointer is told: it is no hole and of level 0. -/
theorem item_leaf {s : St} {x : P5 × Br} (h : Item s x) (hp : x.1.hole = false) (he : ¬ 0 < x.1.e) : nh x.2 = [x.1] := by
  obtain ⟨l, hl, hb⟩ := h.br
  cases l with
  | zero =>
    rw [br_zero] at hb
    split at hb
    · injection hb with hb
      rw [← hb, nh_cons, if_neg (by rw [hp]; decide)]; rfl
    · cases hb
  | succ l =>
    rw [br_succ] at hb
    split at hb
    · next hc =>
      rcases hc.1.2.2 with h1 | h1
      · rw [hp] at h1; cases h1
      · omega
    · cases hb
/-- .. or of a higher level: those below it come next. -/
theorem item_down {s : St} {x : P5 × Br} (h : Item s x) (hp : x.1.hole = false) (he : 0 < x.1.e) : ∃ (l : Nat) (qs : List P5) (X : List (P5 × Br)), x.1.e = ((l + 1 : Nat) : Int) ∧ belS s x.1 (l + 1) = some qs ∧ qs.length = 4 ∧ X.map (·.1) = qs ∧ (∀ y ∈ X, Item s y) ∧ nh x.2 = x.1 :: told X ∧ left X + 1 = x.2.length := by
  obtain ⟨l, hl, hb⟩ := h.br
  cases l with
  | zero =>
    rw [br_zero] at hb
    split at hb
    · next hc =>
      rcases hc.2.2 with h1 | h1
      · rw [hp] at h1; cases h1
      · omega
    · cases hb
  | succ l =>
    rw [br_succ] at hb
    split at hb
    · next hc =>
      obtain ⟨M, hM, hx⟩ := Option.map_eq_some_iff.1 hb
      have hq : ∀ q ∈ (fanB x.1 (readC s x.1).1).1, q.b ≤ x.1.b := fun q hq => Decidable.byContradiction fun hn => by
        rw [brAll_none hq (by rw [br_birth, if_neg hn])] at hM
        cases hM
      rw [brAll_congr (g := fun q => br s l q q.b) (fun q hm => by rw [br_birth, if_pos (hq q hm)])] at hM
      obtain ⟨X, e1, e2, e3, e4⟩ := brAll_items (by omega) (fun q hm => ⟨fanB_ok hm, Int.le_trans (hq q hm) h.txg⟩) hM
      refine ⟨l, _, X, hc.1.2.2.resolve_left (by rw [hp]; decide), by rw [belS_eq h.ok h.txg, if_pos ⟨hc, hq⟩], fanB_len hc.2, e1, e2, ?_, ?_⟩
      · rw [← hx, nh_cons, if_neg (by rw [hp]; decide), e3]; rfl
      · rw [← hx, e4, List.length_cons]
    · cases hb
theorem item_hole {s : St} {x : P5 × Br} (h : Item s x) (hp : x.1.hole = true) : nh x.2 = [] ∧ 1 ≤ x.2.length := by
  obtain ⟨l, hl, hb⟩ := h.br
  exact ⟨br_hole l hp hb, br_pos hb⟩
/-- All pointers of a tree, if it is valid. -/
def allO (s : St) (t : Tr) : Option (List P5) := (plantO s t).map nh
end Go.Proofs.YtjmfefaoenmppaaGreatDoor
