/-
  Sets of disks that are changed in place, disk by disk.
-/
import Derived.Test.YtndckncoipkhaaaRCp
import Derived.Test.YtndckncoipkhaaaKC
namespace Go.Proofs.Ytndckncoipkhaaa
open Go.RowKit

/-- The disks ps lie in blocks from lo to hi. -/
def RKeep (W : World) (lo hi : Nat) (u : Value) (ps : List RD) : Prop := (W.ownsRow lo 60 3 u ps.length (trios ps) ∧ ∀ k, u.ownBlock = some k → k < hi) ∧ ∀ p ∈ ps, DkIn W lo hi p.val p.d
theorem DkIn.wide {W : World} {l h l' h' : Nat} {v : Value} {d : Dk} (k : DkIn W l h v d) (h1 : l' ≤ l) (h2 : h ≤ h') : DkIn W l' h' v d := by
  obtain ⟨t, u1, u2, e, ht, a, b⟩ := k
  exact ⟨t, u1, u2, e, ht, ⟨own_base a.1 h1, fun k hk => Nat.lt_of_lt_of_le (a.2 k hk) h2⟩, ⟨own_base b.1 h1, fun k hk => Nat.lt_of_lt_of_le (b.2 k hk) h2⟩⟩
theorem ROwn.keep {W : World} {base : Nat} {u : Value} {ps : List RD} (h : ROwn W base u ps) : RKeep W base W.heap.size u ps :=
  ⟨⟨h.1, fun k hk => (h.1.lt k hk).2⟩, fun p hp => (h.2.each p hp).1.wide (h.2.each p hp).2.1 (h.2.each p hp).2.2.2.1⟩
theorem RKeep.below {W W' : World} {lo hi : Nat} {u : Value} {ps : List RD} (h : RKeep W lo hi u ps) (hb : Below W.heap.size W W') : RKeep W' lo hi u ps := ⟨⟨own_bel h.1.1 hb, h.1.2⟩, fun p hp => (h.2 p hp).below hb⟩
theorem RKeep.only {W W' : World} {a b lo hi : Nat} {u : Value} {ps : List RD} (h : RKeep W lo hi u ps) (hg : Only a b W W') (hn : b ≤ lo ∨ hi ≤ a) : RKeep W' lo hi u ps :=
  ⟨⟨own_only h.1.1 hg (fun k hk => by have := (h.1.1.lt k hk).1; have := h.1.2 k hk; omega), h.1.2⟩, fun p hp => (h.2 p hp).only hg hn⟩
theorem RKeep.at_ {W : World} {lo hi n c : Nat} {A : Option Addr} {ps : List RD} (h : RKeep W lo hi (.slice A n c) ps) : RAt W A ps := by
  obtain ⟨A', c', e, hl⟩ := own_lies h.1.1
  cases e
  refine ⟨fun h0 => ?_, fun p hp => (h.2 p hp).at_⟩
  obtain ⟨b, off, e, hlt, hc⟩ := hl (by rw [trios_len]; omega)
  exact ⟨b, off, e, hlt, fun j hj k v hk hv => hc (j * 3 + k) v ((trios_at ps j k hj hk).trans hv)⟩
theorem RKeep.set {W : World} {lo hi : Nat} {u : Value} {ps : List RD} (h : RKeep W lo hi u ps) {p : Addr} (hp : p.block < lo) (x : Value) : RKeep (W.setCell p x) lo hi u ps :=
  h.only (a := p.block) (b := p.block + 1) (Only.of_grown (grown_set W p x) (fun k e => by cases e; omega)) (by omega)
theorem RKeep.wide {W : World} {lo hi lo' hi' : Nat} {u : Value} {ps : List RD} (h : RKeep W lo hi u ps) (h1 : lo' ≤ lo) (h2 : hi ≤ hi') : RKeep W lo' hi' u ps :=
  ⟨⟨own_base h.1.1 h1, fun k hk => Nat.lt_of_lt_of_le (h.1.2 k hk) h2⟩, fun p hp => (h.2 p hp).wide h1 h2⟩
/-- A set of disks is returned, in blocks of the call's own. -/
def RPostK (R : List Dk) (w : World) (r : Ending) (w' : World) : Prop :=
  ∃ (ps : List RD) (A : Option Addr) (c : Nat), r = .returned (.agg #[.slice A ps.length c]) ∧ dks ps = R ∧ RKeep w' w.heap.size w'.heap.size (.slice A ps.length c) ps ∧ Below w.heap.size w w'
def RPostK2 (R : List Dk) (b : Bool) (w : World) (r : Ending) (w' : World) : Prop :=
  ∃ (ps : List RD) (A : Option Addr) (c : Nat), r = .returned (.tuple #[.agg #[.slice A ps.length c], .bool b]) ∧ dks ps = R ∧ RKeep w' w.heap.size w'.heap.size (.slice A ps.length c) ps ∧ Below w.heap.size w w'
theorem RPost.keep {R : List Dk} {w w' : World} {r : Ending} (h : RPost R w r w') : RPostK R w r w' := by
  obtain ⟨ps, A, c, e, hd, ho, hb⟩ := h
  exact ⟨ps, A, c, e, hd, ho.keep, hb⟩

/-- A block of a disk's. -/
def RD.has (p : RD) (b : Nat) : Prop := p.a = some ⟨b, 0, none⟩ ∨ p.b = some ⟨b, 0, none⟩
theorem own_block {n c k : Nat} {A : Option Addr} (h : (Value.slice A n c).ownBlock = some k) (w : World) {base : Nat} {t : TypeId} {sz : Nat} {xs : List Value} (ho : w.ownsRow base t sz (.slice A n c) n xs) : A = some ⟨k, 0, none⟩ := by
  rcases ho.2 with ⟨e, _⟩ | ⟨g, cap, cur, e, _⟩
  · cases e
    cases h
  · cases e
    simp only [Value.ownBlock, Option.some.injEq] at h
    rw [h]
theorem DkIn.only2 {W W' : World} {lo hi l h : Nat} {p : RD} (k : DkIn W l h p.val p.d) (hg : Only lo hi W W') (hn : ∀ b, p.has b → ¬ (lo ≤ b ∧ b < hi)) : DkIn W' l h p.val p.d := by
  obtain ⟨t, u1, u2, e, ht, a, b⟩ := k
  have e2 := e
  simp only [RD.val, Value.agg.injEq, Array.mk.injEq, List.cons.injEq, and_true] at e2
  obtain ⟨rfl, rfl⟩ := e2
  exact ⟨t, _, _, e, ht, ⟨own_only a.1 hg (fun k hk => hn k (.inl (own_block hk W a.1))), a.2⟩, ⟨own_only b.1 hg (fun k hk => hn k (.inr (own_block hk W b.1))), b.2⟩⟩
theorem trios_set : ∀ (ps : List RD) (j : Nat) (_ : j < ps.length) (q : RD), ((((trios ps).set (j * 3) (.slice q.a q.d.cells.length q.c)).set (j * 3 + 1) (.slice q.b q.d.waits.length q.e)).set (j * 3 + 2) (.bool q.d.gone)) = trios (ps.set j q)
  | p :: ps, 0, _, q => by simp [trios, RD.trio]
  | p :: ps, j + 1, h, q => by
    have ih := trios_set ps j (by simpa using h) q
    show ((((RD.trio p ++ trios ps).set _ _).set _ _).set _ _) = RD.trio p ++ trios (ps.set j _)
    have l3 : (RD.trio p).length = 3 := rfl
    rw [List.set_append_right _ _ (by rw [l3]; omega), List.set_append_right _ _ (by rw [l3]; omega), List.set_append_right _ _ (by rw [l3]; omega), l3, show (j + 1) * 3 - 3 = j * 3 by omega, show (j + 1) * 3 + 1 - 3 = j * 3 + 1 by omega, show (j + 1) * 3 + 2 - 3 = j * 3 + 2 by omega, ih]

/-- The first k disks have been changed; the others lie as they did. -/
structure Half (W : World) (base g c k : Nat) (ps cur : List RD) : Prop where
  len : cur.length = ps.length
  row : W.ownsRow base 60 3 (.slice (some ⟨g, 0, none⟩) ps.length c) ps.length (trios cur)
  done : ∀ i (h : i < cur.length), i < k → DkIn W base W.heap.size cur[i].val cur[i].d ∧ ∀ j (hj : j < ps.length), k ≤ j → ∀ b, cur[i].has b → b < ps[j].l ∨ ps[j].h ≤ b
  rest : ∀ j (hj : j < ps.length), k ≤ j → cur[j]'(by omega) = ps[j] ∧ DkIn W ps[j].l ps[j].h ps[j].val ps[j].d ∧ base ≤ ps[j].l ∧ ps[j].h ≤ W.heap.size ∧ ¬ (ps[j].l ≤ g ∧ g < ps[j].h)
theorem Half.start {W : World} {base c : Nat} {g : Nat} {ps : List RD} (h : ROwn W base (.slice (some ⟨g, 0, none⟩) ps.length c) ps) : Half W base g c 0 ps ps :=
  ⟨rfl, h.1, fun i _ hi => by omega, fun j hj _ => by
    obtain ⟨a, b, _, d, e⟩ := h.2.each _ (List.getElem_mem hj)
    exact ⟨rfl, a, b, d, e g rfl⟩⟩
theorem Half.below {W W' : World} {base g c k : Nat} {ps cur : List RD} (h : Half W base g c k ps cur) (hb : Below W.heap.size W W') : Half W' base g c k ps cur :=
  ⟨h.len, own_bel h.row hb, fun i hi hk => ⟨((h.done i hi hk).1.below hb).wide (Nat.le_refl _) hb.size, (h.done i hi hk).2⟩, fun j hj hk => by
    obtain ⟨a, b, d, e, f⟩ := h.rest j hj hk
    exact ⟨a, b.below hb, d, Nat.le_trans e hb.size, f⟩⟩
theorem Half.end_ {W : World} {base g c : Nat} {ps cur : List RD} (h : Half W base g c ps.length ps cur) : RKeep W base W.heap.size (.slice (some ⟨g, 0, none⟩) cur.length c) cur := by
  refine ⟨⟨by rw [h.len]; exact h.row, fun k e => by cases e; exact (h.row.lt g rfl).2⟩, fun p hp => ?_⟩
  obtain ⟨i, hi, rfl⟩ := List.getElem_of_mem hp
  exact (h.done i hi (by have := h.len; omega)).1
/-- Disk k is changed, in its own blocks and new ones. -/
theorem Half.next {W W' : World} {base g c k : Nat} {ps cur : List RD} (h : Half W base g c k ps cur) (hk : k < ps.length) (hap : ps.Pairwise (fun p q => p.h ≤ q.l ∨ q.h ≤ p.l)) {gk : Nat} (hgk : ps[k].l ≤ gk ∧ gk < ps[k].h) (hgr : W.grownBy W' (some gk)) {q : RD} (hq : DkIn W' base W'.heap.size q.val q.d) (hqb : ∀ b, q.has b → (ps[k].l ≤ b ∧ b < ps[k].h) ∨ W.heap.size ≤ b) :
    Half (((W'.setCell ⟨g, k * 3, none⟩ (.slice q.a q.d.cells.length q.c)).setCell ⟨g, k * 3 + 1, none⟩ (.slice q.b q.d.waits.length q.e)).setCell ⟨g, k * 3 + 2, none⟩ (.bool q.d.gone)) base g c (k + 1) ps (cur.set k q) := by
  have hlen := h.len
  have on : Only ps[k].l ps[k].h W W' := Only.of_grown hgr (fun b e => by cases e; exact hgk)
  obtain ⟨_, _, hb0, hb1, hgn⟩ := h.rest k hk (Nat.le_refl _)
  have oth : ∀ j (hj : j < ps.length), k + 1 ≤ j → ps[k].h ≤ ps[j].l ∨ ps[j].h ≤ ps[k].l := fun j hj hkj => List.pairwise_iff_getElem.1 hap k j hk hj (by omega)
  have row' := own_only h.row on (fun b e => by cases e; exact hgn)
  have r3 := ((((row'.stored (k * 3) (.slice q.a q.d.cells.length q.c)).1).stored (k * 3 + 1) (.slice q.b q.d.waits.length q.e)).1.stored (k * 3 + 2) (.bool q.d.gone)).1
  rw [trios_set cur k (by omega) q] at r3
  have hgw : g < W'.heap.size := (row'.lt g rfl).2
  have hgl : g < W.heap.size := (h.row.lt g rfl).2
  obtain ⟨V, hV⟩ : ∃ V, V = ((W'.setCell ⟨g, k * 3, none⟩ (.slice q.a q.d.cells.length q.c)).setCell ⟨g, k * 3 + 1, none⟩ (.slice q.b q.d.waits.length q.e)).setCell ⟨g, k * 3 + 2, none⟩ (.bool q.d.gone) := ⟨_, rfl⟩
  have onG : Only g (g + 1) W' V := by
    rw [hV]
    exact ((Only.of_grown (grown_set W' ⟨g, k * 3, none⟩ (.slice q.a q.d.cells.length q.c)) (fun b e => by cases e; exact ⟨Nat.le_refl _, Nat.lt_succ_self _⟩)).trans (Only.of_grown (grown_set _ ⟨g, k * 3 + 1, none⟩ (.slice q.b q.d.waits.length q.e)) (fun b e => by cases e; exact ⟨Nat.le_refl _, Nat.lt_succ_self _⟩))).trans (Only.of_grown (grown_set _ ⟨g, k * 3 + 2, none⟩ (.bool q.d.gone)) (fun b e => by cases e; exact ⟨Nat.le_refl _, Nat.lt_succ_self _⟩))
  have hs : V.heap.size = W'.heap.size := by rw [hV]; simp [World.setCell]
  rw [← hV] at r3 ⊢
  clear hV
  have notg : ∀ {l h : Nat} {p : RD}, DkIn W' l h p.val p.d → ∀ b, p.has b → ¬ (g ≤ b ∧ b < g + 1) := by
    intro l h' p hp b hbb hlt
    have hbg : b = g := by omega
    subst hbg
    obtain ⟨t, u1, u2, e, ht, a1, a2⟩ := hp
    simp only [RD.val, Value.agg.injEq, Array.mk.injEq, List.cons.injEq, and_true] at e
    obtain ⟨rfl, rfl⟩ := e
    have n1 := own_ne row' a1.1 (by rcases ht with rfl | rfl <;> decide)
    have n2 := own_ne row' a2.1 (by decide)
    rcases hbb with e | e
    · rw [e] at n1
      rcases n1 with x | x <;> simp [Value.ownBlock] at x
    · rw [e] at n2
      rcases n2 with x | x <;> simp [Value.ownBlock] at x
  refine ⟨by rw [List.length_set]; exact hlen, r3, fun i hi hik => ?_, fun j hj hkj => ?_⟩
  · rw [List.length_set] at hi
    rw [List.getElem_set]
    by_cases e : k = i
    · subst e
      simp only [if_pos]
      refine ⟨by rw [hs]; exact hq.only2 onG (notg hq), fun j hj hkj b hb => ?_⟩
      have := oth j hj hkj
      have h3 := (h.rest j hj (by omega)).2.2.2.1
      rcases hqb b hb with h1 | h1 <;> omega
    · rw [if_neg e]
      obtain ⟨a, av⟩ := h.done i hi (by omega)
      have a2 := a.only2 on (fun b hb => by have := av k hk (Nat.le_refl _) b hb; omega)
      exact ⟨by rw [hs]; exact (a2.only2 onG (notg a2)).wide (Nat.le_refl _) hgr.size, fun j hj hkj => av j hj (by omega)⟩
  · obtain ⟨a, b, d, e, f⟩ := h.rest j hj (by omega)
    have hne : k ≠ j := by omega
    rw [List.getElem_set, if_neg hne]
    have b2 := b.only on (by have := oth j hj hkj; omega)
    exact ⟨a, b2.only onG (by omega), d, by rw [hs]; exact Nat.le_trans e hgr.size, f⟩
end Go.Proofs.Ytndckncoipkhaaa
