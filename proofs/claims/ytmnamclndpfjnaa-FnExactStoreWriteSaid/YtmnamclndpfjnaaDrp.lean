/-
  One reference of a row of a store is given back, in place, as the specification does it.
-/
import Derived.Test.YtmnamclndpfjnaaSpH
import Derived.Test.YtmnamclndpfjnaaStT
import Derived.Test.YtmnamclndpfjnaaNxP
namespace Go.Proofs.Ytmnamclndpfjnaa
open Go.RowKit

def dropSt (s : St) (n : Nat) : St := { s with rows := if s.sp.refs.getD n 0 = 1 then s.rows.set n b0 else s.rows, sp := ⟨s.sp.refs.set n (s.sp.refs.getD n 0 - 1), lastG (s.sp.refs.getD n 0) s.sp.last n⟩ }
theorem drop_rows (s : St) (n : Nat) : (dropSt s n).rows.length = s.rows.length := by unfold dropSt; simp only; split <;> simp
theorem drop_refs (s : St) (n : Nat) : (dropSt s n).sp.refs.length = s.sp.refs.length := by simp [dropSt]
theorem drop_last (s : St) (n : Nat) : (dropSt s n).sp.last.length = s.sp.last.length := by simp [dropSt, lastG_len]
theorem own_twok {w w' : World} {p q base : Nat} {t : TypeId} {sz n : Nat} {v : Value} {xs : List Value} (h : w.ownsRow base t sz v n xs) (hg : Two p q w w') (h1 : v.ownBlock ≠ some p) (h2 : v.ownBlock ≠ some q) : w'.ownsRow base t sz v n xs := by
  refine ⟨h.1, ?_⟩
  rcases h.2 with hn | ⟨g, cap, cur, rfl, hb, hgg, rest⟩
  · exact .inl hn
  · refine .inr ⟨g, cap, cur, rfl, hb, ?_, rest⟩
    rw [hg.block g (Array.getElem?_eq_some_iff.1 hgg).1 (fun e => h1 (by rw [e]; rfl)) (fun e => h2 (by rw [e]; rfl))]
    exact hgg
theorem own_two {w w' : World} {base top p q : Nat} {x : SA} {s : St} (h : Own w base top (rows5 x s)) (hR : x.R = some ⟨p, 0, none⟩) (hL : x.L = some ⟨q, 0, none⟩) (hg : Two p q w w') {R L : List Int}
    (o1 : w'.ownsRow base 3 1 (.slice x.R R.length x.r) R.length (intCells R)) (o2 : w'.ownsRow base 3 1 (.slice x.L L.length x.l) L.length (intCells L)) : Own w' base top (rows5 x { s with sp := ⟨R, L⟩ }) := by
  have ap := fun (i j : Nat) (hi : i < 5) (hj : j < 5) (hne : i ≠ j) => apart_at (L := rows5 x s) h.2 (i := i) (j := j) hi hj hne
  have b1 : (Value.slice x.R s.sp.refs.length x.r).ownBlock = some p := by rw [hR]; rfl
  have b2 : (Value.slice x.L s.sp.last.length x.l).ownBlock = some q := by rw [hL]; rfl
  have ne : ∀ i, (hi : i < 5) → i ≠ 1 → i ≠ 2 → ((rows5 x s)[i]'hi).v.ownBlock ≠ some p ∧ ((rows5 x s)[i]'hi).v.ownBlock ≠ some q := by
    intro i hi h1 h2
    constructor
    · rcases ne_own (ap 1 i (by decide) hi (Ne.symm h1)) with e | e
      · rw [e]; exact fun e => by cases e
      · intro e'; exact e (e'.trans b1.symm)
    · rcases ne_own (ap 2 i (by decide) hi (Ne.symm h2)) with e | e
      · rw [e]; exact fun e => by cases e
      · intro e'; exact e (e'.trans b2.symm)
  refine ⟨fun r hr => ?_, ?_⟩
  · simp only [rows5, List.mem_cons, List.not_mem_nil, or_false] at hr
    rcases hr with rfl | rfl | rfl | rfl | rfl
    · exact ⟨own_twok (h.row 0 (by decide : 0 < 5)) hg (ne 0 (by decide) (by decide) (by decide)).1 (ne 0 (by decide) (by decide) (by decide)).2, (h.1 _ (by simp [rows5])).2⟩
    · exact ⟨o1, fun k hk => (h.1 ⟨3, 1, s.sp.refs.length, .slice x.R s.sp.refs.length x.r, intCells s.sp.refs⟩ (by simp [rows5])).2 k (by rw [hR] at hk ⊢; exact hk)⟩
    · exact ⟨o2, fun k hk => (h.1 ⟨3, 1, s.sp.last.length, .slice x.L s.sp.last.length x.l, intCells s.sp.last⟩ (by simp [rows5])).2 k (by rw [hL] at hk ⊢; exact hk)⟩
    · exact ⟨own_twok (h.row 3 (by decide : 3 < 5)) hg (ne 3 (by decide) (by decide) (by decide)).1 (ne 3 (by decide) (by decide) (by decide)).2, (h.1 ⟨45, 5, s.gone.length, .slice x.G s.gone.length x.g, flat s.gone⟩ (by simp [rows5])).2⟩
    · exact ⟨own_twok (h.row 4 (by decide : 4 < 5)) hg (ne 4 (by decide) (by decide) (by decide)).1 (ne 4 (by decide) (by decide) (by decide)).2, (h.1 ⟨45, 5, s.dead.length, .slice x.D s.dead.length x.d, flat s.dead⟩ (by simp [rows5])).2⟩
  · have s1 := setAt_apart h.2 1 (by decide : 1 < 5) (r := ⟨3, 1, R.length, .slice x.R R.length x.r, intCells R⟩) (by show (Value.slice x.R R.length x.r).ownBlock = _; rw [hR]; show _ = (Value.slice x.R s.sp.refs.length x.r).ownBlock; rw [hR]; rfl)
    exact setAt_apart s1 2 (by decide : 2 < 5) (r := ⟨3, 1, L.length, .slice x.L L.length x.l, intCells L⟩) (by show (Value.slice x.L L.length x.l).ownBlock = _; rw [hL]; show _ = (Value.slice x.L s.sp.last.length x.l).ownBlock; rw [hL]; rfl)
theorem Own.setA {w : World} {base top : Nat} {L : List Rw} (h : Own w base top L) {a : Addr} (ha : top ≤ a.block) (u : Value) : Own (w.setCell a u) base top L := h.only (only_set (lo := a.block) (hi := a.block + 1) (Nat.le_refl _) (Nat.lt_succ_self _) u) (.inr ha)
theorem putS_ownA {W : World} {H base top : Nat} {x : SA} {s : St} {L : List Rw} (h : Own W base top L) (hH : top ≤ H) : Own (putS W H x s) base top L :=
  (((((((h.setA hH _).setA hH _).setA hH _).setA hH _).setA hH _).setA hH _).setA hH _).setA hH _
theorem putS_onlyA {a W : World} {H lo hi : Nat} {x : SA} {s : St} (h : Only lo hi a W) (hH : a.heap.size ≤ H) : Only lo hi a (putS W H x s) :=
  (((((((h.set2 hH _).set2 hH _).set2 hH _).set2 hH _).set2 hH _).set2 hH _).set2 hH _).set2 hH _
theorem Two.only {p q lo hi : Nat} {a w : World} (h : Two p q a w) (hp : lo ≤ p ∧ p < hi) (hq : lo ≤ q ∧ q < hi) : Only lo hi a w := ⟨h.os, h.tape, h.output, h.size, fun k hk hn => h.block k hk (fun e => hn (e ▸ hp)) (fun e => hn (e ▸ hq))⟩
theorem B8.two {W W' : World} {g p q : Nat} {t : TypeId} {v0 v1 v2 v3 v4 v5 v6 v7 : Value} (h : B8 W g t v0 v1 v2 v3 v4 v5 v6 v7) (hg : Two p q W W') (h1 : g ≠ p) (h2 : g ≠ q) : B8 W' g t v0 v1 v2 v3 v4 v5 v6 v7 := (hg.block g h.lt h1 h2).trans h
end Go.Proofs.Ytmnamclndpfjnaa
