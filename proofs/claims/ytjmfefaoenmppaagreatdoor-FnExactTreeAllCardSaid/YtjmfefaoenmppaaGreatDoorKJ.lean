/-
  The branch to which a pointer leads, as the program reads it from a store.
  The branch to which a pointer leads; a tree's box and a plant's.
  What is below a pointer, as the specification reads it from a store.
  The pointers of all places of a tree, as the specification reads them, level by level.
-/
import Derived.Test.YtjmfefaoenmppaaGreatDoorKI
import Derived.Test.YtjmfefaoenmppaaGreatDoorKD
import Derived.Test.YtjmfefaoenmppaaGreatDoorKE
set_option linter.unusedVariables false

namespace Go.Proofs.YtjmfefaoenmppaaGreatDoor
open Go.RowKit

/-- A branch of memory of the call's own is returned, or none. -/
def BrPost (o : Option Br) (l : Nat) (w : World) (e : Ending) (w' : World) : Prop := Below w.heap.size w w' ∧
  match o with
  | none => e = .returned (.tuple #[.pointer none, .bool false])
  | some L => ∃ g gs, e = .returned (.tuple #[ptrV g, .bool true]) ∧ TrAt w' (fun k => w.heap.size ≤ k) l g L gs
theorem br_no {s : St} {l : Nat} {birth : Int} {p : P5} (h : ¬ brOk s l birth p) : br s l p birth = none := by
  cases l with
  | zero => rw [br_zero, if_neg h]
  | succ l => rw [br_succ, if_neg (fun e => h e.1)]

set_option maxRecDepth 100000 in
set_option maxHeartbeats 4000000 in
theorem branch_no (x : SA) (s : St) (a b c d e lv birth : Int) (w : World) (hok : StOk s) (ht : ∀ t ∈ s.rows, t.size ≤ maxLen) (hA : StAt w x s) (hp : isOk a b c d e = true)
    (hno : (readC s ⟨a, b, c, d, e⟩).2 = false ∨ birth < b ∨ (isHole a b c d e = false ∧ e ≠ lv)) :
    Calls Tryz.prog 79 #[.agg #[.slice x.A s.rows.length x.a, .slice x.R s.sp.refs.length x.r, .slice x.L s.sp.last.length x.l, .int .i64 s.txg, .slice x.G s.gone.length x.g, .int .i64 s.keep, .slice x.D s.dead.length x.d, .bool s.same], .agg #[.int .i64 a, .int .i64 b, .int .i64 c, .int .i64 d, .int .i64 e], .int .i64 lv, .int .i64 birth] w fun r w' => r = .returned (.tuple #[.pointer none, .bool false]) ∧ Below w.heap.size w w' := by
  have c0 := (B8.new w 38 (.slice x.A s.rows.length x.a) (.slice x.R s.sp.refs.length x.r) (.slice x.L s.sp.last.length x.l) (.int .i64 s.txg) (.slice x.G s.gone.length x.g) (.int .i64 s.keep) (.slice x.D s.dead.length x.d) (.bool s.same)).alloc (.cells #[.int .i64 a, .int .i64 b, .int .i64 c, .int .i64 d, .int .i64 e] 40)
  have g0 := B5.new (w.alloc (.cells #[.slice x.A s.rows.length x.a, .slice x.R s.sp.refs.length x.r, .slice x.L s.sp.last.length x.l, .int .i64 s.txg, .slice x.G s.gone.length x.g, .int .i64 s.keep, .slice x.D s.dead.length x.d, .bool s.same] 38)) a b c d e 40
  have BB : Below w.heap.size w ((w.alloc (.cells #[.slice x.A s.rows.length x.a, .slice x.R s.sp.refs.length x.r, .slice x.L s.sp.last.length x.l, .int .i64 s.txg, .slice x.G s.gone.length x.g, .int .i64 s.keep, .slice x.D s.dead.length x.d, .bool s.same] 38)).alloc (.cells #[.int .i64 a, .int .i64 b, .int .i64 c, .int .i64 d, .int .i64 e] 40)) := bel_new (bel_new (Below.refl _ _) _) _
  rw [World.size_alloc] at g0
  have s0 : ((w.alloc (.cells #[.slice x.A s.rows.length x.a, .slice x.R s.sp.refs.length x.r, .slice x.L s.sp.last.length x.l, .int .i64 s.txg, .slice x.G s.gone.length x.g, .int .i64 s.keep, .slice x.D s.dead.length x.d, .bool s.same] 38)).alloc (.cells #[.int .i64 a, .int .i64 b, .int .i64 c, .int .i64 d, .int .i64 e] 40)).heap.size = w.heap.size + 1 + 1 := by rw [World.size_alloc, World.size_alloc]
  have hR := impl_mread x s a b c d e _ hok ht (hA.below BB) hp
  obtain ⟨⟨t, q⟩, hrd⟩ : ∃ q, q = readC s ⟨a, b, c, d, e⟩ := ⟨_, rfl⟩
  rw [← hrd] at hno hR
  have hM := fun W => m_hole a b c d e W
  go_enter Tryz.func79, Tryz.ntmps79
  go_upto_region 1 with fail
  generalize hW0 : (w.alloc (.cells #[.slice x.A s.rows.length x.a, .slice x.R s.sp.refs.length x.r, .slice x.L s.sp.last.length x.l, .int .i64 s.txg, .slice x.G s.gone.length x.g, .int .i64 s.keep, .slice x.D s.dead.length x.d, .bool s.same] 38)).alloc (.cells #[.int .i64 a, .int .i64 b, .int .i64 c, .int .i64 d, .int .i64 e] 40) = W0 at c0 g0 BB hR s0
  clear hW0 hok ht hA hp hrd
  obtain ⟨x0, x1, x2, x3, x4, x5, x6, x7⟩ := c0.cells
  obtain ⟨y0, y1, y2, y3, y4, hgl⟩ := id g0
  go_wp2_with (go_at_call 57; refine hR.mono ?_; rintro r w2 ⟨rfl, hb2⟩; refine Hid.out ?_)
  refine Lib.hid ?_
  clear x0 x1 x2 x3 x4 x5 x6 x7 y0 y1 y2 y3 y4
  have g1 := g0.below hb2
  obtain ⟨y0, y1, y2, y3, y4, hgl2⟩ := id g1
  have B2 := bel_then BB hb2
  cases q with
  | false =>
    go_wp2_with fail
    go_ret2
    exact ⟨rfl, B2⟩
  | true =>
    replace hno := hno.resolve_left (by simp)
    by_cases h1 : birth < b
    · go_wp2_with fail
      go_ret2
      exact ⟨rfl, B2⟩
    · obtain ⟨hh, hne⟩ := hno.resolve_left h1
      rw [hh] at hM
      have hne2 : (e != lv) = true := by simpa using hne
      clear hh hne hno
      go_wp2_with (go_at_call 68; refine (hM _).mono ?_; rintro r w3 ⟨rfl, rfl⟩)
      go_ret2
      exact ⟨rfl, bel_new B2 _⟩

theorem Only.far {lo hi : Nat} {a b c : World} {r : Option Nat} (h : Only lo hi a b) (k : b.grownBy c r) (hr : ∀ j, r = some j → a.heap.size ≤ j) : Only lo hi a c :=
  ⟨k.os.trans h.os, k.tape.trans h.tape, k.output.trans h.output, Nat.le_trans h.size k.size, fun i hi' hn => (k.block i (Nat.lt_of_lt_of_le hi' h.size) (fun e => by have := hr i e.symm; omega)).trans (h.block i hi' hn)⟩
theorem Only.bel {lo hi : Nat} {a b c : World} (h : Only lo hi a b) (k : Below b.heap.size b c) : Only lo hi a c := h.trans (Only.of_below k)
theorem Only.put {lo hi : Nat} {a b : World} (h : Only lo hi a b) {p : Addr} (h1 : lo ≤ p.block) (h2 : p.block < hi) (u : Value) : Only lo hi a (b.setCell p u) :=
  ⟨h.os, h.tape, h.output, by rw [size_set]; exact h.size, fun k hk hn => (Below.heap_setCell b p u k (fun e => hn (by rw [e]; exact ⟨h1, h2⟩))).trans (h.block k hk hn)⟩
theorem PtrsAt.only {W W' : World} {lo hi g : Nat} {ps : List P5} (h : PtrsAt W g ps) (hg : Only lo hi W W') (hn : ¬ (lo ≤ g ∧ g < hi)) : PtrsAt W' g ps :=
  ⟨Nat.lt_of_lt_of_le h.1 hg.size, fun j v hv => (World.cell?_of_block (a := ⟨g, 0 + j, none⟩) (show W'.heap[g]? = W.heap[g]? from hg.block g h.1 hn)).trans (h.2 j v hv)⟩
theorem read_small {s : St} {p : P5} (hp : p.ok = true) : (readC s p).1.size ≤ 128 := by
  unfold readC
  by_cases hh : p.hole = true
  · rw [if_pos hh]; decide
  · rw [if_neg hh]
    have hb := P5.ok_bounds hp (by simpa using hh)
    by_cases hf : fitP p (s.rows.getD p.a.toNat b0) = true
    · rw [if_pos hf]
      unfold fitP at hf
      simp only [Bool.and_eq_true, beq_iff_eq] at hf
      simp only
      omega
    · rw [if_neg hf]; decide
/-- What the walk stands on once the pointer is as it must be: the text is read, the two boxes lie where they lay. -/
theorem bel_two {w w0 w2 w3 : World} (h : Below w.heap.size w w0) (k : Below w0.heap.size w0 w2) (m : Below w2.heap.size w2 w3) : Below w.heap.size w w3 := bel_then (bel_then h k) m

set_option maxRecDepth 100000 in
set_option maxHeartbeats 4000000 in
theorem branch_zero (x : SA) (s : St) (a b c d e birth : Int) (w : World) (hok : StOk s) (ht : ∀ t ∈ s.rows, t.size ≤ maxLen) (hA : StAt w x s) (hp : isOk a b c d e = true)
    (hk : brOk s 0 birth ⟨a, b, c, d, e⟩) :
    Calls Tryz.prog 79 #[.agg #[.slice x.A s.rows.length x.a, .slice x.R s.sp.refs.length x.r, .slice x.L s.sp.last.length x.l, .int .i64 s.txg, .slice x.G s.gone.length x.g, .int .i64 s.keep, .slice x.D s.dead.length x.d, .bool s.same], .agg #[.int .i64 a, .int .i64 b, .int .i64 c, .int .i64 d, .int .i64 e], .int .i64 0, .int .i64 birth] w (BrPost (some [(⟨a, b, c, d, e⟩, 0)]) 0 w) := by
  have c0 := (B8.new w 38 (.slice x.A s.rows.length x.a) (.slice x.R s.sp.refs.length x.r) (.slice x.L s.sp.last.length x.l) (.int .i64 s.txg) (.slice x.G s.gone.length x.g) (.int .i64 s.keep) (.slice x.D s.dead.length x.d) (.bool s.same)).alloc (.cells #[.int .i64 a, .int .i64 b, .int .i64 c, .int .i64 d, .int .i64 e] 40)
  have g0 := B5.new (w.alloc (.cells #[.slice x.A s.rows.length x.a, .slice x.R s.sp.refs.length x.r, .slice x.L s.sp.last.length x.l, .int .i64 s.txg, .slice x.G s.gone.length x.g, .int .i64 s.keep, .slice x.D s.dead.length x.d, .bool s.same] 38)) a b c d e 40
  have BB : Below w.heap.size w ((w.alloc (.cells #[.slice x.A s.rows.length x.a, .slice x.R s.sp.refs.length x.r, .slice x.L s.sp.last.length x.l, .int .i64 s.txg, .slice x.G s.gone.length x.g, .int .i64 s.keep, .slice x.D s.dead.length x.d, .bool s.same] 38)).alloc (.cells #[.int .i64 a, .int .i64 b, .int .i64 c, .int .i64 d, .int .i64 e] 40)) := bel_new (bel_new (Below.refl _ _) _) _
  rw [World.size_alloc] at g0
  have s0 : ((w.alloc (.cells #[.slice x.A s.rows.length x.a, .slice x.R s.sp.refs.length x.r, .slice x.L s.sp.last.length x.l, .int .i64 s.txg, .slice x.G s.gone.length x.g, .int .i64 s.keep, .slice x.D s.dead.length x.d, .bool s.same] 38)).alloc (.cells #[.int .i64 a, .int .i64 b, .int .i64 c, .int .i64 d, .int .i64 e] 40)).heap.size = w.heap.size + 1 + 1 := by rw [World.size_alloc, World.size_alloc]
  have hR := impl_mread x s a b c d e _ hok ht (hA.below BB) hp
  obtain ⟨⟨t, q⟩, hrd⟩ : ∃ q, q = readC s ⟨a, b, c, d, e⟩ := ⟨_, rfl⟩
  obtain ⟨h1, h2, h3⟩ := hk
  rw [← hrd] at h1 hR
  have hM := fun W => m_hole a b c d e W
  obtain rfl : q = true := h1
  have h2' : ¬ birth < b := by simp only at h2; omega
  go_enter Tryz.func79, Tryz.ntmps79
  go_upto_region 1 with fail
  generalize hW0 : (w.alloc (.cells #[.slice x.A s.rows.length x.a, .slice x.R s.sp.refs.length x.r, .slice x.L s.sp.last.length x.l, .int .i64 s.txg, .slice x.G s.gone.length x.g, .int .i64 s.keep, .slice x.D s.dead.length x.d, .bool s.same] 38)).alloc (.cells #[.int .i64 a, .int .i64 b, .int .i64 c, .int .i64 d, .int .i64 e] 40) = W0 at c0 g0 BB hR s0
  clear hW0 hok ht hA hp hrd h2
  obtain ⟨x0, x1, x2, x3, x4, x5, x6, x7⟩ := c0.cells
  obtain ⟨y0, y1, y2, y3, y4, hgl⟩ := id g0
  go_wp2_with (go_at_call 57; refine hR.mono ?_; rintro r w2 ⟨rfl, hb2⟩; refine Hid.out ?_)
  refine Lib.hid ?_
  clear x0 x1 x2 x3 x4 x5 x6 x7 y0 y1 y2 y3 y4
  have g1 := g0.below hb2
  obtain ⟨y0, y1, y2, y3, y4, hgl2⟩ := id g1
  have B2 := bel_then BB hb2
  go_upto_region 2 with fail
  go_cut [42] (fun v wx => v = .bool false ∧ Below w2.heap.size w2 wx)
  case first =>
    cases hh : isHole a b c d e with
    | true =>
      rw [hh] at hM
      go_wp2_with (go_at_call 68; refine (hM _).mono ?_; rintro r w3 ⟨rfl, rfl⟩)
      go_meet
      exact ⟨by rw [decide_eq_false (by omega)], bel_new (Below.refl _ _) _⟩
    | false =>
      have hne2 : (e != 0) = false := by
        rcases h3 with h | h
        · exact absurd (show isHole a b c d e = true from h) (fun h => by rw [hh] at h; cases h)
        · rw [show e = 0 from h]; rfl
      rw [hh] at hM
      go_wp2_with (go_at_call 68; refine (hM _).mono ?_; rintro r w3 ⟨rfl, rfl⟩)
      go_meet
      exact ⟨by rw [decide_eq_false (by omega)], bel_new (Below.refl _ _) _⟩
  case rest =>
    obtain ⟨rfl, hb3⟩ := hcut
    obtain ⟨w3, ew3, hb3⟩ : ∃ W, W = _ ∧ Below w2.heap.size w2 W := ⟨_, rfl, hb3⟩
    subst ew3
    clear y0 y1 y2 y3 y4
    have g2 := g1.below hb3
    obtain ⟨y0, y1, y2, y3, y4, hgl2⟩ := id g2
    have B3 := bel_then B2 hb3
    clear hM
    go_wp2_with fail
    go_ret2
    refine ⟨bel_new B3 _, w3.heap.size, [w3.heap.size], rfl, ⟨a, b, c, d, e⟩, rfl, rfl, Nd.new w3 ⟨a, b, c, d, e⟩ 0 none 0 0, B3.size⟩

/-- What the loop of a branch keeps. -/
structure BrInv (x : SA) (s : St) (w5 : World) (G gq h8 h5 : Nat) (p : P5) (qs : List P5) (l j : Nat) (hs : List Nat) (X : List (Br × List Nat)) (A : Option Addr) (c : Nat) (wr : World) : Prop where
  only : Only G (G + 1) w5 wr
  nd : Nd wr G p (l + 1) A j c
  own : wr.ownsRow w5.heap.size 72 1 (.slice A j c) j (ptrVs hs)
  len : hs.length = j
  kids : Kids (TrAt wr (fun k => w5.heap.size ≤ k ∧ some k ≠ (Value.slice A j c).ownBlock) l) hs X
  all : brAll (fun q => br s l q p.b) (qs.take j) = some (catB X)
theorem Kids.imp {T U : Nat → Br → List Nat → Prop} {hs : List Nat} {X : List (Br × List Nat)} (h : Kids T hs X) (hi : ∀ g L gs, T g L gs → U g L gs) : Kids U hs X := ⟨h.1, fun j a b => hi _ _ _ (h.2 j a b)⟩
theorem Kids.snoc {T : Nat → Br → List Nat → Prop} {hs : List Nat} {X : List (Br × List Nat)} (h : Kids T hs X) {g : Nat} {L : Br} {gs : List Nat} (k : T g L gs) : Kids T (hs ++ [g]) (X ++ [(L, gs)]) := by
  refine ⟨by simp [h.1], fun j h1 h2 => ?_⟩
  by_cases hj : j < hs.length
  · rw [List.getElem_append_left hj, List.getElem_append_left (by rw [h.1]; exact hj)]
    exact h.2 j hj _
  · rw [List.length_append, List.length_singleton] at h1
    obtain rfl : j = hs.length := by omega
    have e1 : (hs ++ [g])[hs.length]? = some g := by simp
    have e2 : (X ++ [(L, gs)])[hs.length]? = some (L, gs) := by rw [← h.1]; simp
    rw [(List.getElem?_eq_some_iff.1 e1).2, (List.getElem?_eq_some_iff.1 e2).2]
    exact k
theorem catB_snoc (X : List (Br × List Nat)) (L : Br) (gs : List Nat) : catB (X ++ [(L, gs)]) = catB X ++ L := by simp [catB]
/-- One branch more. -/
theorem BrInv.next {x : SA} {s : St} {w5 wr w6 w8 : World} {G gq h8 h5 : Nat} {p q : P5} {qs : List P5} {l j : Nat} {hs : List Nat} {X : List (Br × List Nat)} {A : Option Addr} {c : Nat} {h : Nat} {L : Br} {gs : List Nat}
    (hG : G < w5.heap.size) (I : BrInv x s w5 G gq h8 h5 p qs l j hs X A c wr) (hj : j < qs.length) (hq : qs[j] = q) (hb : Below wr.heap.size wr w6)
    (hT : TrAt w6 (fun k => wr.heap.size ≤ k) l h L gs) (hbr : br s l q p.b = some L) {A2 : Option Addr} {c2 : Nat}
    (hown : w8.ownsRow w5.heap.size 72 1 (.slice A2 (j + 1) c2) (j + 1) (ptrVs hs ++ [ptrV h])) (hgrow : (w6.alloc (.cells #[ptrV h] 72)).grownBy w8 (Value.slice A j c).ownBlock)
    (hat : (Value.slice A2 (j + 1) c2).ownBlock = (Value.slice A j c).ownBlock ∨ (Value.slice A2 (j + 1) c2).ownBlock = some (w6.alloc (.cells #[ptrV h] 72)).heap.size) :
    BrInv x s w5 G gq h8 h5 p qs l (j + 1) (hs ++ [h]) (X ++ [(L, gs)]) A2 c2 (w8.setCell ⟨G, 6, none⟩ (.slice A2 (j + 1) c2)) := by
  have ho6 := own_bel I.own hb
  have hfar : ∀ k, (Value.slice A j c).ownBlock = some k → w5.heap.size ≤ k ∧ k < wr.heap.size := fun k hk => I.own.lt k hk
  have hb7 : Below w6.heap.size w6 (w6.alloc (.cells #[ptrV h] 72)) := (Below.refl _ _).alloc (Nat.le_refl _) _
  have s67 : (w6.alloc (.cells #[ptrV h] 72)).heap.size = w6.heap.size + 1 := by rw [World.size_alloc]
  have s5 := I.only.size
  have s6 := hb.size
  have s8 := hgrow.size
  have o7 := (I.only.bel hb).bel hb7
  have o8 := o7.far hgrow (fun k hk => (hfar k hk).1)
  have n8 := ((I.nd.below hb).below hb7).grown hgrow (fun e => by have := (hfar G e.symm).1; omega)
  have hmove : ∀ k, k < w6.heap.size → (w5.heap.size ≤ k ∧ some k ≠ (Value.slice A j c).ownBlock) → (w8.setCell ⟨G, 6, none⟩ (.slice A2 (j + 1) c2)).heap[k]? = w6.heap[k]? := fun k hk hp => by
    rw [Below.heap_setCell w8 ⟨G, 6, none⟩ _ k (by simp only; omega), hgrow.block k (by omega) hp.2, hb7.block k hk]
  have hnew : ∀ k, k < w6.heap.size → (w5.heap.size ≤ k ∧ some k ≠ (Value.slice A j c).ownBlock) → (w5.heap.size ≤ k ∧ some k ≠ (Value.slice A2 (j + 1) c2).ownBlock) := fun k hk hp => by
    refine ⟨hp.1, ?_⟩
    rcases hat with e | e
    · rw [e]; exact hp.2
    · rw [e, s67]; intro e; injection e with e; omega
  have step : ∀ g L gs, TrAt w6 (fun k => w5.heap.size ≤ k ∧ some k ≠ (Value.slice A j c).ownBlock) l g L gs → TrAt (w8.setCell ⟨G, 6, none⟩ (.slice A2 (j + 1) c2)) (fun k => w5.heap.size ≤ k ∧ some k ≠ (Value.slice A2 (j + 1) c2).ownBlock) l g L gs := fun g L gs hT => by
    have h1 : TrAt w6 (fun k => (w5.heap.size ≤ k ∧ some k ≠ (Value.slice A j c).ownBlock) ∧ k < w6.heap.size) l g L gs := hT.mono fun k hk hp => ⟨hp, hk⟩
    have h2 := h1.moved (W' := w8.setCell ⟨G, 6, none⟩ (.slice A2 (j + 1) c2)) (by rw [size_set]; omega) (fun k hk hp => hmove k hk hp.1)
    exact h2.mono fun k _ hp => hnew k hp.2 hp.1
  refine ⟨o8.put (Nat.le_refl _) (Nat.lt_succ_self _) _, ?_, ?_, by rw [List.length_append, I.len]; rfl, ?_, ?_⟩
  · unfold Nd at n8 ⊢
    exact heap_put n8 6 (.slice A2 (j + 1) c2)
  · rw [ptrVs_app]
    exact own_set hown (show G < w5.heap.size from hG) _
  · refine Kids.snoc ((I.kids.imp fun g L gs hk => step g L gs (hk.below hb))) (step _ _ _ (hT.mono fun k _ hk => ⟨by omega, fun e => by have := (hfar k e.symm).2; omega⟩))
  · rw [List.take_succ_eq_append_getElem hj, brAll_append, I.all, hq, brAll_one, hbr, both_some, catB_snoc]

set_option maxRecDepth 100000 in
set_option maxHeartbeats 8000000 in
theorem branch_succ (x : SA) (s : St) (a b c d e birth l1 : Int) (l : Nat) (w : World) (hok : StOk s) (ht : ∀ t ∈ s.rows, t.size ≤ maxLen) (hA : StAt w x s) (hE : Fx.Env w) (hp : isOk a b c d e = true)
    (hl : (l1 = 1 ∧ l = 0) ∨ (l1 = 2 ∧ l = 1)) (hk : brOk s (l + 1) birth ⟨a, b, c, d, e⟩)
    (IH : ∀ (q : P5) (B : Int) W, q.ok = true → StAt W x s → Fx.Env W → Calls Tryz.prog 79 #[.agg #[.slice x.A s.rows.length x.a, .slice x.R s.sp.refs.length x.r, .slice x.L s.sp.last.length x.l, .int .i64 s.txg, .slice x.G s.gone.length x.g, .int .i64 s.keep, .slice x.D s.dead.length x.d, .bool s.same], .agg #[.int .i64 q.a, .int .i64 q.b, .int .i64 q.c, .int .i64 q.d, .int .i64 q.e], .int .i64 (l : Int), .int .i64 B] W (BrPost (br s l q B) l W)) :
    Calls Tryz.prog 79 #[.agg #[.slice x.A s.rows.length x.a, .slice x.R s.sp.refs.length x.r, .slice x.L s.sp.last.length x.l, .int .i64 s.txg, .slice x.G s.gone.length x.g, .int .i64 s.keep, .slice x.D s.dead.length x.d, .bool s.same], .agg #[.int .i64 a, .int .i64 b, .int .i64 c, .int .i64 d, .int .i64 e], .int .i64 l1, .int .i64 birth] w (BrPost (br s (l + 1) ⟨a, b, c, d, e⟩ birth) (l + 1) w) := by
  have hl1 : l1 = ((l + 1 : Nat) : Int) := by rcases hl with ⟨h1, h2⟩ | ⟨h1, h2⟩ <;> subst h1 <;> subst h2 <;> rfl
  have hz1 : (l1 == 0) = false := by rw [beq_eq_false_iff_ne]; omega
  have c0 := (B8.new w 38 (.slice x.A s.rows.length x.a) (.slice x.R s.sp.refs.length x.r) (.slice x.L s.sp.last.length x.l) (.int .i64 s.txg) (.slice x.G s.gone.length x.g) (.int .i64 s.keep) (.slice x.D s.dead.length x.d) (.bool s.same)).alloc (.cells #[.int .i64 a, .int .i64 b, .int .i64 c, .int .i64 d, .int .i64 e] 40)
  have g0 := B5.new (w.alloc (.cells #[.slice x.A s.rows.length x.a, .slice x.R s.sp.refs.length x.r, .slice x.L s.sp.last.length x.l, .int .i64 s.txg, .slice x.G s.gone.length x.g, .int .i64 s.keep, .slice x.D s.dead.length x.d, .bool s.same] 38)) a b c d e 40
  have BB : Below w.heap.size w ((w.alloc (.cells #[.slice x.A s.rows.length x.a, .slice x.R s.sp.refs.length x.r, .slice x.L s.sp.last.length x.l, .int .i64 s.txg, .slice x.G s.gone.length x.g, .int .i64 s.keep, .slice x.D s.dead.length x.d, .bool s.same] 38)).alloc (.cells #[.int .i64 a, .int .i64 b, .int .i64 c, .int .i64 d, .int .i64 e] 40)) := bel_new (bel_new (Below.refl _ _) _) _
  rw [World.size_alloc] at g0
  have s0 : ((w.alloc (.cells #[.slice x.A s.rows.length x.a, .slice x.R s.sp.refs.length x.r, .slice x.L s.sp.last.length x.l, .int .i64 s.txg, .slice x.G s.gone.length x.g, .int .i64 s.keep, .slice x.D s.dead.length x.d, .bool s.same] 38)).alloc (.cells #[.int .i64 a, .int .i64 b, .int .i64 c, .int .i64 d, .int .i64 e] 40)).heap.size = w.heap.size + 1 + 1 := by rw [World.size_alloc, World.size_alloc]
  have hR := impl_mread x s a b c d e _ hok ht (hA.below BB) hp
  have hF := fun W (hW : Below w.heap.size w W) => impl_fanBelow ⟨a, b, c, d, e⟩ (readC s ⟨a, b, c, d, e⟩).1 W (by have := read_small (s := s) (p := ⟨a, b, c, d, e⟩) hp; omega) (hE.at hW)
  have hv : br s (l + 1) ⟨a, b, c, d, e⟩ birth = if (fanB ⟨a, b, c, d, e⟩ (readC s ⟨a, b, c, d, e⟩).1).2 = true then (brAll (fun q => br s l q b) (fanB ⟨a, b, c, d, e⟩ (readC s ⟨a, b, c, d, e⟩).1).1).map fun L => (⟨a, b, c, d, e⟩, l + 1) :: L else none := by
    rw [br_succ]
    by_cases hf : (fanB ⟨a, b, c, d, e⟩ (readC s ⟨a, b, c, d, e⟩).1).2 = true
    · rw [if_pos ⟨hk, hf⟩, if_pos hf]
    · rw [if_neg (fun h => hf h.2), if_neg hf]
  have hlen := fanB_len (p := ⟨a, b, c, d, e⟩) (t := (readC s ⟨a, b, c, d, e⟩).1)
  have hqs := @fanB_ok ⟨a, b, c, d, e⟩ (readC s ⟨a, b, c, d, e⟩).1
  rw [hv]
  obtain ⟨⟨t, q⟩, hrd⟩ : ∃ q, q = readC s ⟨a, b, c, d, e⟩ := ⟨_, rfl⟩
  obtain ⟨h1, h2, h3⟩ := hk
  rw [← hrd] at h1 hR hF hlen hqs ⊢
  have hM := fun W => m_hole a b c d e W
  obtain rfl : q = true := h1
  have h2' : ¬ birth < b := by simp only at h2; omega
  obtain ⟨⟨qs, fo⟩, hfo⟩ : ∃ r, r = fanB ⟨a, b, c, d, e⟩ t := ⟨_, rfl⟩
  simp only at hF hlen hqs ⊢
  rw [← hfo] at hF hlen hqs ⊢
  obtain ⟨O, hO⟩ : ∃ O, O = (if fo = true then (brAll (fun q => br s l q b) qs).map fun L => ((⟨a, b, c, d, e⟩ : P5), l + 1) :: L else none) := ⟨_, rfl⟩
  simp only at hlen hqs ⊢
  rw [← hO]
  have HO := Lib.hid hO
  have Hl := Lib.hid hl1
  have HH := Lib.hid hl
  have HZ := Lib.hid hz1
  have hAw := hA
  have hEw := hE
  go_enter Tryz.func79, Tryz.ntmps79
  go_upto_region 1 with fail
  generalize hW0 : (w.alloc (.cells #[.slice x.A s.rows.length x.a, .slice x.R s.sp.refs.length x.r, .slice x.L s.sp.last.length x.l, .int .i64 s.txg, .slice x.G s.gone.length x.g, .int .i64 s.keep, .slice x.D s.dead.length x.d, .bool s.same] 38)).alloc (.cells #[.int .i64 a, .int .i64 b, .int .i64 c, .int .i64 d, .int .i64 e] 40) = W0 at c0 g0 BB hR s0
  clear hW0 hp hrd h2 hv hfo hO hl hl1 hz1 hA hE
  obtain ⟨x0, x1, x2, x3, x4, x5, x6, x7⟩ := c0.cells
  obtain ⟨y0, y1, y2, y3, y4, hgl⟩ := id g0
  go_wp2_with (go_at_call 57; refine hR.mono ?_; rintro r w2 ⟨rfl, hb2⟩; refine Hid.out ?_)
  refine Lib.hid ?_
  clear x0 x1 x2 x3 x4 x5 x6 x7 y0 y1 y2 y3 y4
  have c1 := c0.below hb2
  have g1 := g0.below hb2
  obtain ⟨y0, y1, y2, y3, y4, hgl2⟩ := id g1
  have B2 := bel_then BB hb2
  go_upto_region 2 with fail
  go_cut [42] (fun v wx => v = .bool false ∧ Below w2.heap.size w2 wx)
  case first =>
    cases hh : isHole a b c d e with
    | true =>
      rw [hh] at hM
      go_wp2_with (go_at_call 68; refine (hM _).mono ?_; rintro r w3 ⟨rfl, rfl⟩)
      go_meet
      exact ⟨by rw [decide_eq_false (by omega)], bel_new (Below.refl _ _) _⟩
    | false =>
      have hne2 : (e != l1) = false := by
        rcases h3 with h | h
        · exact absurd (show isHole a b c d e = true from h) (fun h => by rw [hh] at h; cases h)
        · rw [show e = l1 by rw [Hl.out]; exact h]; simp
      rw [hh] at hM
      go_wp2_with (go_at_call 68; refine (hM _).mono ?_; rintro r w3 ⟨rfl, rfl⟩)
      go_meet
      exact ⟨by rw [decide_eq_false (by omega)], bel_new (Below.refl _ _) _⟩
  case rest =>
    obtain ⟨rfl, hb3⟩ := hcut
    obtain ⟨w3, ew3, hb3⟩ : ∃ W, W = _ ∧ Below w2.heap.size w2 W := ⟨_, rfl, hb3⟩
    subst ew3
    clear y0 y1 y2 y3 y4
    have c2 := c1.below hb3
    have g2 := g1.below hb3
    obtain ⟨y0, y1, y2, y3, y4, hgl3⟩ := id g2
    have B3 := bel_then B2 hb3
    have s3 := Nat.le_trans hb2.size hb3.size
    have s3 : w.heap.size + 1 < w3.heap.size := by rw [s0] at s3; omega
    have hz1 := HZ.out
    clear hM h3 h2' g1 c1 B2
    go_upto_region 7 with fail
    obtain ⟨w4, hw4⟩ : ∃ W, W = w3.alloc (.cells #[.int .i64 a, .int .i64 b, .int .i64 c, .int .i64 d, .int .i64 e, .int .i64 l1, .slice none 0 0] 96) := ⟨_, rfl⟩
    have n4 : Nd w4 w3.heap.size ⟨a, b, c, d, e⟩ (l + 1) none 0 0 := by rw [hw4]; have := Nd.new w3 ⟨a, b, c, d, e⟩ (l + 1) none 0 0; rw [← Hl.out] at this; exact this
    have c4 : B8 w4 w.heap.size 38 (.slice x.A s.rows.length x.a) (.slice x.R s.sp.refs.length x.r) (.slice x.L s.sp.last.length x.l) (.int .i64 s.txg) (.slice x.G s.gone.length x.g) (.int .i64 s.keep) (.slice x.D s.dead.length x.d) (.bool s.same) := by rw [hw4]; exact c2.alloc _
    have B34 : Below w3.heap.size w3 w4 := by rw [hw4]; exact bel_new (Below.refl _ _) _
    have g4 := g2.below B34
    have B4 := bel_then B3 B34
    have s4 : w4.heap.size = w3.heap.size + 1 := by rw [hw4, World.size_alloc]
    rw [← hw4]
    clear hw4 y0 y1 y2 y3 y4
    obtain ⟨y0, y1, y2, y3, y4, hgl4⟩ := id g4
    have hF4 := hF w4 B4
    clear hF hb2 hb3 c2 g2 B34
    obtain ⟨i0, hi, hz0, hz1', hz2⟩ := info_parts Tryz.info72
    cases fo with
    | false =>
      have hF5 : Calls Tryz.prog 98 #[.agg #[.int .i64 a, .int .i64 b, .int .i64 c, .int .i64 d, .int .i64 e], .string t] w4 fun e' w' => ∃ (A : Option Addr) (cc : Nat), e' = .returned (.tuple #[.slice A 0 cc, .bool false]) ∧ Below w4.heap.size w4 w' := hF4.mono fun e' w' ⟨hb, h⟩ => h.elim (fun ⟨h, _⟩ => by cases h) (fun ⟨_, A, cc, he⟩ => ⟨A, cc, he, hb⟩)
      clear hF4
      go_wp2_with (go_at_call 98; refine hF5.mono ?_; rintro r w5 ⟨A, cc, rfl, hb5⟩)
      go_ret2
      rw [HO.out]
      exact ⟨bel_then B4 hb5, rfl⟩
    | true =>
      have hq4 : qs.length = 4 := hlen rfl
      have hF5 : Calls Tryz.prog 98 #[.agg #[.int .i64 a, .int .i64 b, .int .i64 c, .int .i64 d, .int .i64 e], .string t] w4 fun e' w' => ∃ (g cc : Nat), e' = .returned (.tuple #[.slice (some ⟨g, 0, none⟩) 4 cc, .bool true]) ∧ Below w4.heap.size w4 w' ∧ w4.heap.size ≤ g ∧ PtrsAt w' g qs := hF4.mono fun e' w' ⟨hb, h⟩ => h.elim (fun ⟨_, g, cc, he, h1, h2⟩ => ⟨g, cc, by rw [he, hq4], hb, h1, h2⟩) (fun ⟨h, _⟩ => by cases h)
      clear hF4 hlen
      go_wp2_with (go_at_call 98; refine hF5.mono ?_; rintro r w5 ⟨gq, cq, rfl, hb5, hgq, hPq⟩; refine Hid.out ?_)
      refine Lib.hid ?_
      have n5 := n4.below hb5
      have c5 := c4.below hb5
      have g5 := g4.below hb5
      have B5w := bel_then B4 hb5
      have s5 := hb5.size
      have hG5 : w3.heap.size < w5.heap.size := by omega
      clear hF5 hb5 n4 c4 g4 B4 B3 y0 y1 y2 y3 y4 hgl hgl2 hgl3 hgl4
      go_wp2_with fail
      go_loopg [60] 4 (fun gh i wr => ∃ (j : Nat) (hs : List Nat) (X : List (Br × List Nat)) (A : Option Addr) (cc : Nat), gh = 4 - j ∧ j ≤ 4 ∧ i = .int .i64 j ∧ BrInv x s w5 w3.heap.size 0 0 0 ⟨a, b, c, d, e⟩ qs l j hs X A cc wr)
      case atStart => exact ⟨0, [], [], none, 0, by omega, by omega, rfl, Only.of_below (Below.refl _ _), n5, World.ownsRow_nil _ _ _ _, rfl, ⟨rfl, fun j h => absurd h (by simp)⟩, rfl⟩
      case round =>
        clear n5
        obtain ⟨j, hs, X, A, cc, hg, hj, rfl, I⟩ := hrel
        have HG := Lib.hid hg
        clear hg
        have sr := I.only.size
        by_cases hlt : j < 4
        · have hlt' : (j : Int) < 4 := by omega
          have hjq : j < qs.length := by omega
          obtain ⟨⟨qa, qb, qc, qd, qe⟩, hqj⟩ : ∃ r, qs[j] = r := ⟨_, rfl⟩
          have hqok : isOk qa qb qc qd qe = true := by have := hqs (List.getElem_mem hjq); rw [hqj] at this; exact this
          have HQ := Lib.hid hqj
          obtain ⟨y0, y1, y2, y3, y4⟩ := (hPq.only I.only (by omega)).cell j hjq hqj
          clear hqj
          go_upto_region 13 with fail
          have hb7 := bel_new (Below.refl wr.heap.size wr) (.cells #[.int .i64 qa, .int .i64 qb, .int .i64 qc, .int .i64 qd, .int .i64 qe] 40)
          have s7 : (wr.alloc (.cells #[.int .i64 qa, .int .i64 qb, .int .i64 qc, .int .i64 qd, .int .i64 qe] 40)).heap.size = wr.heap.size + 1 := by rw [World.size_alloc]
          have q7 := B5.new wr qa qb qc qd qe 40
          obtain ⟨W7, hW7⟩ : ∃ W, W = wr.alloc (.cells #[.int .i64 qa, .int .i64 qb, .int .i64 qc, .int .i64 qd, .int .i64 qe] 40) := ⟨_, rfl⟩
          rw [← hW7] at hb7 q7 s7 ⊢
          clear hW7 y0 y1 y2 y3 y4
          have B77 := hb7
          have c7 := (c5.only I.only (by omega)).below hb7
          have g7 := (g5.only I.only (by omega)).below hb7
          have n7 := I.nd.below hb7
          have o7 := own_bel I.own hb7
          have B7 : Below w.heap.size w W7 := bel_then (B5w.trans (I.only.below (by omega) (by omega))) hb7
          have hA7 := hAw.below B7
          have hE7 := hEw.at B7
          obtain ⟨x0, x1, x2, x3, x4, x5, x6, x7⟩ := c7.cells
          obtain ⟨y0, y1, y2, y3, y4, hgl⟩ := id g7
          obtain ⟨k0, k1, k2, k3, k4, hgl2⟩ := id q7
          rcases HH.out with ⟨rfl, rfl⟩ | ⟨rfl, rfl⟩
          · skip
            have hC0 : ∀ W, StAt W x s → Fx.Env W → Calls Tryz.prog 79 #[.agg #[.slice x.A s.rows.length x.a, .slice x.R s.sp.refs.length x.r, .slice x.L s.sp.last.length x.l, .int .i64 s.txg, .slice x.G s.gone.length x.g, .int .i64 s.keep, .slice x.D s.dead.length x.d, .bool s.same], .agg #[.int .i64 qa, .int .i64 qb, .int .i64 qc, .int .i64 qd, .int .i64 qe], .int .i64 0, .int .i64 b] W (BrPost (br s 0 ⟨qa, qb, qc, qd, qe⟩ b) 0 W) := fun W h1 h2 => IH ⟨qa, qb, qc, qd, qe⟩ b W hqok h1 h2
            have hC := hC0 W7 hA7 hE7
            clear hC0 IH hA7 hE7
            cases hbr : br s 0 ⟨qa, qb, qc, qd, qe⟩ b with
            | none =>
              rw [hbr] at hC
              have hC2 : Calls Tryz.prog 79 #[.agg #[.slice x.A s.rows.length x.a, .slice x.R s.sp.refs.length x.r, .slice x.L s.sp.last.length x.l, .int .i64 s.txg, .slice x.G s.gone.length x.g, .int .i64 s.keep, .slice x.D s.dead.length x.d, .bool s.same], .agg #[.int .i64 qa, .int .i64 qb, .int .i64 qc, .int .i64 qd, .int .i64 qe], .int .i64 0, .int .i64 b] W7 fun r w' => r = .returned (.tuple #[.pointer none, .bool false]) ∧ Below W7.heap.size W7 w' := hC.mono fun r w' h => ⟨h.2, h.1⟩
              have hON : Hid (O = none) := Lib.hid (by rw [HO.out, if_pos trivial, brAll_none (List.getElem_mem hjq) (by rw [HQ.out]; exact hbr)]; rfl)
              clear hC hbr HO
              go_wp2_with (go_at_call 79; refine hC2.mono ?_; rintro r w6 ⟨rfl, hb6⟩)
              go_ret2
              rw [hON.out]
              exact ⟨bel_then B7 hb6, rfl⟩
            | some Lj =>
              rw [hbr] at hC
              have hC2 : Calls Tryz.prog 79 #[.agg #[.slice x.A s.rows.length x.a, .slice x.R s.sp.refs.length x.r, .slice x.L s.sp.last.length x.l, .int .i64 s.txg, .slice x.G s.gone.length x.g, .int .i64 s.keep, .slice x.D s.dead.length x.d, .bool s.same], .agg #[.int .i64 qa, .int .i64 qb, .int .i64 qc, .int .i64 qd, .int .i64 qe], .int .i64 0, .int .i64 b] W7 fun r w' => ∃ h gs, r = .returned (.tuple #[.pointer (some ⟨h, 0, none⟩), .bool true]) ∧ Below W7.heap.size W7 w' ∧ TrAt w' (fun k => W7.heap.size ≤ k) 0 h Lj gs := hC.mono fun r w' h => by obtain ⟨h1, g, gs, h2, h3⟩ := h; exact ⟨g, gs, h2, h1, h3⟩
              have HBR := Lib.hid hbr
              clear hC hbr
              go_wp2_with (first | (go_at_call 79; refine hC2.mono ?_; rintro r w6 ⟨h, gs, rfl, hb6, hT⟩; have n6 := n7.below hb6; have o6 := own_bel o7 hb6; obtain ⟨z0, z1, z2, z3, z4, z5, z6⟩ := (n6.alloc (.cells #[.pointer (some ⟨h, 0, none⟩)] 72)).cells; obtain ⟨v0, v1, v2, v3, v4, v5, v6⟩ := n6.cells; have o8 := own_bel o6 (bel_new (Below.refl _ _) (.cells #[.pointer (some ⟨h, 0, none⟩)] 72)); have s67 := hb6.size; have hL8 : Lies (w6.alloc (.cells #[.pointer (some ⟨h, 0, none⟩)] 72)) (some ⟨w6.heap.size, 0, none⟩) [.pointer (some ⟨h, 0, none⟩)] := fun _ => ⟨w6.heap.size, 0, rfl, by simp, fun i v hv => by rw [Nat.zero_add, World.cell?_alloc_mark]; rw [← hv]; simp⟩) | (at_builtin; refine wpList_append_five _ rfl _ _ 93 rfl w5.heap.size 72 i0 (.pointer none) 1 8 Tryz.underlying93 hi hz0 hz1' hz2 rfl (by decide) _ _ _ rfl o8 (some ⟨w6.heap.size, 0, none⟩) 1 1 [.pointer (some ⟨h, 0, none⟩)] (by decide) rfl rfl hL8 (by simp [Value.oneCell']) (by unfold maxLen; omega) (by omega) (by rw [World.size_alloc]; omega) ?_))
              intro v' w8 hown hgrow hat
              obtain ⟨g9, c9, rfl⟩ := Fx.own_form5 hown (by omega)
              have n8 := (n6.alloc (.cells #[.pointer (some ⟨h, 0, none⟩)] 72)).grown hgrow (fun e => by have := (I.own.lt _ e.symm).1; omega)
              have HI : Hid (BrInv x s w5 w3.heap.size 0 0 0 ⟨a, b, c, d, e⟩ qs 0 (j + 1) (hs ++ [h]) (X ++ [(Lj, gs)]) (some ⟨g9, 0, none⟩) c9 (w8.setCell ⟨w3.heap.size, 6, none⟩ (.slice (some ⟨g9, 0, none⟩) (j + 1) c9))) :=
                Lib.hid (BrInv.next (h := h) (L := Lj) (gs := gs) hG5 I hjq HQ.out (bel_then B77 hb6) (hT.mono fun k _ hk => by omega) HBR.out hown hgrow (by rw [World.size_alloc]; exact hat))
              obtain ⟨u0, u1, u2, u3, u4, u5, u6⟩ := n8.cells
              have f6 := n8.free 6
              clear hown hgrow hat n8 n6 n7 o6 o7 o8 I hT z0 z1 z2 z3 z4 z5 z6 v0 v1 v2 v3 v4 v5 v6 hL8 HBR
              go_wp2_with fail
              go_roundg (4 - (j + 1))
              case measure => have := HG.out; omega
              case rel => exact ⟨j + 1, hs ++ [h], X ++ [(Lj, gs)], some ⟨g9, 0, none⟩, c9, rfl, by omega, by go_num, HI.out⟩
          · skip
            have hC0 : ∀ W, StAt W x s → Fx.Env W → Calls Tryz.prog 79 #[.agg #[.slice x.A s.rows.length x.a, .slice x.R s.sp.refs.length x.r, .slice x.L s.sp.last.length x.l, .int .i64 s.txg, .slice x.G s.gone.length x.g, .int .i64 s.keep, .slice x.D s.dead.length x.d, .bool s.same], .agg #[.int .i64 qa, .int .i64 qb, .int .i64 qc, .int .i64 qd, .int .i64 qe], .int .i64 1, .int .i64 b] W (BrPost (br s 1 ⟨qa, qb, qc, qd, qe⟩ b) 1 W) := fun W h1 h2 => IH ⟨qa, qb, qc, qd, qe⟩ b W hqok h1 h2
            have hC := hC0 W7 hA7 hE7
            clear hC0 IH hA7 hE7
            cases hbr : br s 1 ⟨qa, qb, qc, qd, qe⟩ b with
            | none =>
              rw [hbr] at hC
              have hC2 : Calls Tryz.prog 79 #[.agg #[.slice x.A s.rows.length x.a, .slice x.R s.sp.refs.length x.r, .slice x.L s.sp.last.length x.l, .int .i64 s.txg, .slice x.G s.gone.length x.g, .int .i64 s.keep, .slice x.D s.dead.length x.d, .bool s.same], .agg #[.int .i64 qa, .int .i64 qb, .int .i64 qc, .int .i64 qd, .int .i64 qe], .int .i64 1, .int .i64 b] W7 fun r w' => r = .returned (.tuple #[.pointer none, .bool false]) ∧ Below W7.heap.size W7 w' := hC.mono fun r w' h => ⟨h.2, h.1⟩
              have hON : Hid (O = none) := Lib.hid (by rw [HO.out, if_pos trivial, brAll_none (List.getElem_mem hjq) (by rw [HQ.out]; exact hbr)]; rfl)
              clear hC hbr HO
              go_wp2_with (go_at_call 79; refine hC2.mono ?_; rintro r w6 ⟨rfl, hb6⟩)
              go_ret2
              rw [hON.out]
              exact ⟨bel_then B7 hb6, rfl⟩
            | some Lj =>
              rw [hbr] at hC
              have hC2 : Calls Tryz.prog 79 #[.agg #[.slice x.A s.rows.length x.a, .slice x.R s.sp.refs.length x.r, .slice x.L s.sp.last.length x.l, .int .i64 s.txg, .slice x.G s.gone.length x.g, .int .i64 s.keep, .slice x.D s.dead.length x.d, .bool s.same], .agg #[.int .i64 qa, .int .i64 qb, .int .i64 qc, .int .i64 qd, .int .i64 qe], .int .i64 1, .int .i64 b] W7 fun r w' => ∃ h gs, r = .returned (.tuple #[.pointer (some ⟨h, 0, none⟩), .bool true]) ∧ Below W7.heap.size W7 w' ∧ TrAt w' (fun k => W7.heap.size ≤ k) 1 h Lj gs := hC.mono fun r w' h => by obtain ⟨h1, g, gs, h2, h3⟩ := h; exact ⟨g, gs, h2, h1, h3⟩
              have HBR := Lib.hid hbr
              clear hC hbr
              go_wp2_with (first | (go_at_call 79; refine hC2.mono ?_; rintro r w6 ⟨h, gs, rfl, hb6, hT⟩; have n6 := n7.below hb6; have o6 := own_bel o7 hb6; obtain ⟨z0, z1, z2, z3, z4, z5, z6⟩ := (n6.alloc (.cells #[.pointer (some ⟨h, 0, none⟩)] 72)).cells; obtain ⟨v0, v1, v2, v3, v4, v5, v6⟩ := n6.cells; have o8 := own_bel o6 (bel_new (Below.refl _ _) (.cells #[.pointer (some ⟨h, 0, none⟩)] 72)); have s67 := hb6.size; have hL8 : Lies (w6.alloc (.cells #[.pointer (some ⟨h, 0, none⟩)] 72)) (some ⟨w6.heap.size, 0, none⟩) [.pointer (some ⟨h, 0, none⟩)] := fun _ => ⟨w6.heap.size, 0, rfl, by simp, fun i v hv => by rw [Nat.zero_add, World.cell?_alloc_mark]; rw [← hv]; simp⟩) | (at_builtin; refine wpList_append_five _ rfl _ _ 93 rfl w5.heap.size 72 i0 (.pointer none) 1 8 Tryz.underlying93 hi hz0 hz1' hz2 rfl (by decide) _ _ _ rfl o8 (some ⟨w6.heap.size, 0, none⟩) 1 1 [.pointer (some ⟨h, 0, none⟩)] (by decide) rfl rfl hL8 (by simp [Value.oneCell']) (by unfold maxLen; omega) (by omega) (by rw [World.size_alloc]; omega) ?_))
              intro v' w8 hown hgrow hat
              obtain ⟨g9, c9, rfl⟩ := Fx.own_form5 hown (by omega)
              have n8 := (n6.alloc (.cells #[.pointer (some ⟨h, 0, none⟩)] 72)).grown hgrow (fun e => by have := (I.own.lt _ e.symm).1; omega)
              have HI : Hid (BrInv x s w5 w3.heap.size 0 0 0 ⟨a, b, c, d, e⟩ qs 1 (j + 1) (hs ++ [h]) (X ++ [(Lj, gs)]) (some ⟨g9, 0, none⟩) c9 (w8.setCell ⟨w3.heap.size, 6, none⟩ (.slice (some ⟨g9, 0, none⟩) (j + 1) c9))) :=
                Lib.hid (BrInv.next (h := h) (L := Lj) (gs := gs) hG5 I hjq HQ.out (bel_then B77 hb6) (hT.mono fun k _ hk => by omega) HBR.out hown hgrow (by rw [World.size_alloc]; exact hat))
              obtain ⟨u0, u1, u2, u3, u4, u5, u6⟩ := n8.cells
              have f6 := n8.free 6
              clear hown hgrow hat n8 n6 n7 o6 o7 o8 I hT z0 z1 z2 z3 z4 z5 z6 v0 v1 v2 v3 v4 v5 v6 hL8 HBR
              go_wp2_with fail
              go_roundg (4 - (j + 1))
              case measure => have := HG.out; omega
              case rel => exact ⟨j + 1, hs ++ [h], X ++ [(Lj, gs)], some ⟨g9, 0, none⟩, c9, rfl, by omega, by go_num, HI.out⟩
        · obtain rfl : j = 4 := by omega
          have hO2 : O = some ((⟨a, b, c, d, e⟩, l + 1) :: catB X) := by
            have h1 := I.all
            rw [List.take_of_length_le (by omega)] at h1
            rw [HO.out, if_pos trivial]
            simp only at h1
            rw [h1]
            rfl
          have hT : TrAt wr (fun k => w.heap.size ≤ k) (l + 1) w3.heap.size ((⟨a, b, c, d, e⟩, l + 1) :: catB X) (w3.heap.size :: catN X) := by
            refine ⟨⟨a, b, c, d, e⟩, A, cc, hs, X, I.len, I.kids.imp (fun g L gs h => h.mono fun k _ hk => by omega), rfl, rfl, by rw [I.len]; exact I.nd, by omega, ?_, ?_⟩
            · obtain ⟨A3, c3, e3, hL⟩ := own_lies I.own
              injection e3 with eA
              rw [eA]
              exact hL
            · intro ad hA
              obtain ⟨gg, eg⟩ := own_addr I.own (by decide)
              rw [hA] at eg
              injection eg with eg
              have h1 := (I.own.lt gg (by rw [hA, eg]; rfl)).1
              rw [eg]
              simp only
              omega
          have HF : Hid (BrPost O (l + 1) w (.returned (.tuple #[.pointer (some ⟨w3.heap.size, 0, none⟩), .bool true])) wr) := Lib.hid ⟨B5w.trans (I.only.below (by omega) (by omega)), by rw [hO2]; exact ⟨w3.heap.size, w3.heap.size :: catN X, rfl, hT⟩⟩
          clear hO2 hT I
          go_wp2_with fail
          go_ret2
          exact HF.out
end Go.Proofs.YtjmfefaoenmppaaGreatDoor

namespace Go.Proofs.YtjmfefaoenmppaaGreatDoor
open Go.RowKit

theorem br_bad {s : St} {l : Nat} {birth : Int} {a b c d e : Int} (h : ¬ brOk s l birth ⟨a, b, c, d, e⟩) : (readC s ⟨a, b, c, d, e⟩).2 = false ∨ birth < b ∨ (isHole a b c d e = false ∧ e ≠ (l : Int)) := by
  cases h1 : (readC s ⟨a, b, c, d, e⟩).2 with
  | false => exact .inl rfl
  | true =>
    refine .inr ?_
    by_cases h2 : birth < b
    · exact .inl h2
    · refine .inr ?_
      cases h3 : isHole a b c d e with
      | true => exact absurd ⟨h1, (by simp only; omega), .inl h3⟩ h
      | false =>
        exact ⟨rfl, fun h4 => h ⟨h1, (by simp only; omega), .inr h4⟩⟩
theorem impl_branch0 (x : SA) (s : St) (hok : StOk s) (ht : ∀ t ∈ s.rows, t.size ≤ maxLen) (p : P5) (B : Int) (w : World) (hp : p.ok = true) (hA : StAt w x s) :
    Calls Tryz.prog 79 #[.agg #[.slice x.A s.rows.length x.a, .slice x.R s.sp.refs.length x.r, .slice x.L s.sp.last.length x.l, .int .i64 s.txg, .slice x.G s.gone.length x.g, .int .i64 s.keep, .slice x.D s.dead.length x.d, .bool s.same], .agg #[.int .i64 p.a, .int .i64 p.b, .int .i64 p.c, .int .i64 p.d, .int .i64 p.e], .int .i64 0, .int .i64 B] w (BrPost (br s 0 p B) 0 w) := by
  obtain ⟨a, b, c, d, e⟩ := p
  by_cases hk : brOk s 0 B ⟨a, b, c, d, e⟩
  · rw [br_zero, if_pos hk]
    exact branch_zero x s a b c d e B w hok ht hA hp hk
  · rw [br_no hk]
    exact (branch_no x s a b c d e 0 B w hok ht hA hp (br_bad hk)).mono fun r w' h => ⟨h.2, h.1⟩
theorem impl_branch1 (x : SA) (s : St) (hok : StOk s) (ht : ∀ t ∈ s.rows, t.size ≤ maxLen) (p : P5) (B : Int) (w : World) (hp : p.ok = true) (hA : StAt w x s) (hE : Fx.Env w) :
    Calls Tryz.prog 79 #[.agg #[.slice x.A s.rows.length x.a, .slice x.R s.sp.refs.length x.r, .slice x.L s.sp.last.length x.l, .int .i64 s.txg, .slice x.G s.gone.length x.g, .int .i64 s.keep, .slice x.D s.dead.length x.d, .bool s.same], .agg #[.int .i64 p.a, .int .i64 p.b, .int .i64 p.c, .int .i64 p.d, .int .i64 p.e], .int .i64 1, .int .i64 B] w (BrPost (br s 1 p B) 1 w) := by
  obtain ⟨a, b, c, d, e⟩ := p
  by_cases hk : brOk s 1 B ⟨a, b, c, d, e⟩
  · exact branch_succ x s a b c d e B 1 0 w hok ht hA hE hp (.inl ⟨rfl, rfl⟩) hk (fun q B W hq h1 h2 => impl_branch0 x s hok ht q B W hq h1)
  · rw [br_no hk]
    exact (branch_no x s a b c d e 1 B w hok ht hA hp (br_bad hk)).mono fun r w' h => ⟨h.2, h.1⟩
theorem impl_branch2 (x : SA) (s : St) (hok : StOk s) (ht : ∀ t ∈ s.rows, t.size ≤ maxLen) (p : P5) (B : Int) (w : World) (hp : p.ok = true) (hA : StAt w x s) (hE : Fx.Env w) :
    Calls Tryz.prog 79 #[.agg #[.slice x.A s.rows.length x.a, .slice x.R s.sp.refs.length x.r, .slice x.L s.sp.last.length x.l, .int .i64 s.txg, .slice x.G s.gone.length x.g, .int .i64 s.keep, .slice x.D s.dead.length x.d, .bool s.same], .agg #[.int .i64 p.a, .int .i64 p.b, .int .i64 p.c, .int .i64 p.d, .int .i64 p.e], .int .i64 2, .int .i64 B] w (BrPost (br s 2 p B) 2 w) := by
  obtain ⟨a, b, c, d, e⟩ := p
  by_cases hk : brOk s 2 B ⟨a, b, c, d, e⟩
  · exact branch_succ x s a b c d e B 2 1 w hok ht hA hE hp (.inr ⟨rfl, rfl⟩) hk (fun q B W hq h1 h2 => impl_branch1 x s hok ht q B W hq h1 h2)
  · rw [br_no hk]
    exact (branch_no x s a b c d e 2 B w hok ht hA hp (br_bad hk)).mono fun r w' h => ⟨h.2, h.1⟩
theorem impl_branch (x : SA) (s : St) (hok : StOk s) (ht : ∀ t ∈ s.rows, t.size ≤ maxLen) (l : Nat) (hl : l ≤ 2) (p : P5) (B : Int) (w : World) (hp : p.ok = true) (hA : StAt w x s) (hE : Fx.Env w) :
    Calls Tryz.prog 79 #[.agg #[.slice x.A s.rows.length x.a, .slice x.R s.sp.refs.length x.r, .slice x.L s.sp.last.length x.l, .int .i64 s.txg, .slice x.G s.gone.length x.g, .int .i64 s.keep, .slice x.D s.dead.length x.d, .bool s.same], .agg #[.int .i64 p.a, .int .i64 p.b, .int .i64 p.c, .int .i64 p.d, .int .i64 p.e], .int .i64 (l : Int), .int .i64 B] w (BrPost (br s l p B) l w) := by
  rcases (show l = 0 ∨ l = 1 ∨ l = 2 by omega) with rfl | rfl | rfl
  · exact impl_branch0 x s hok ht p B w hp hA
  · exact impl_branch1 x s hok ht p B w hp hA hE
  · exact impl_branch2 x s hok ht p B w hp hA hE

/-- The box of a tree. -/
def B7 (W : World) (g : Nat) (a b c d e dep many : Int) (t : TypeId) : Prop := W.heap[g]? = some (.cells #[.int .i64 a, .int .i64 b, .int .i64 c, .int .i64 d, .int .i64 e, .int .i64 dep, .int .i64 many] t (0, 0))
section
variable {W W' : World} {g : Nat} {a b c d e dep many : Int} {t : TypeId}
theorem B7.lt (h : B7 W g a b c d e dep many t) : g < W.heap.size := (Array.getElem?_eq_some_iff.1 h).1
theorem B7.below (h : B7 W g a b c d e dep many t) (hb : Below W.heap.size W W') : B7 W' g a b c d e dep many t := (hb.block g h.lt).trans h
theorem B7.cells (h : B7 W g a b c d e dep many t) : W.cell? ⟨g, 0, none⟩ = some (.int .i64 a) ∧ W.cell? ⟨g, 1, none⟩ = some (.int .i64 b) ∧ W.cell? ⟨g, 2, none⟩ = some (.int .i64 c) ∧ W.cell? ⟨g, 3, none⟩ = some (.int .i64 d) ∧ W.cell? ⟨g, 4, none⟩ = some (.int .i64 e) ∧ W.cell? ⟨g, 5, none⟩ = some (.int .i64 dep) ∧ W.cell? ⟨g, 6, none⟩ = some (.int .i64 many) := by
  unfold B7 at h
  simp [World.cell?, h]
end
theorem B7.new (w : World) (a b c d e dep many : Int) (t : TypeId) : B7 (w.alloc (.cells #[.int .i64 a, .int .i64 b, .int .i64 c, .int .i64 d, .int .i64 e, .int .i64 dep, .int .i64 many] t)) w.heap.size a b c d e dep many t := heap_alloc_new w _
theorem B2.set0 {W : World} {g : Nat} {t : TypeId} {x y : Value} (h : B2 W g t x y) (u : Value) : B2 (W.setCell ⟨g, 0, none⟩ u) g t u y := heap_put h 0 u
theorem B2.set1 {W : World} {g : Nat} {t : TypeId} {x y : Value} (h : B2 W g t x y) (u : Value) : B2 (W.setCell ⟨g, 1, none⟩ u) g t x u := heap_put h 1 u

theorem pad_getD (Q : List P5) (i : Nat) : (pad Q).getD i P5.zero = Q.getD i P5.zero := by
  unfold pad
  rw [List.getD_eq_getElem?_getD, List.getD_eq_getElem?_getD]
  by_cases h : i < Q.length
  · rw [List.getElem?_append_left h]
  · rw [List.getElem?_append_right (by omega), List.getElem?_eq_none (l := Q) (by omega), List.getElem?_replicate]
    split <;> rfl
theorem empty_iff {n : Nat} {Q : List P5} (h16 : Q.length ≤ 16) : emptyFrom (n : Int) Q ↔ ∀ k, k < 16 - n → ((pad Q).getD (n + k) P5.zero).hole = true := by
  constructor
  · intro h k hk
    rw [pad_getD]
    by_cases hl : n + k < Q.length
    · exact h (n + k) hl (by omega)
    · rw [List.getD_eq_getElem?_getD, List.getElem?_eq_none (by omega)]; rfl
  · intro h i hi hn
    have := h (i - n) (by omega)
    rw [pad_getD, show n + (i - n) = i by omega] at this
    exact this
/-- A plant is returned, in memory of the call's own, or none. -/
def PlPost (o : Option Br) (many : Int) (w : World) (e : Ending) (w' : World) : Prop := Below w.heap.size w w' ∧
  match o with
  | none => e = .returned (.tuple #[.agg #[.pointer none, .int .i64 0], .bool false])
  | some L => ∃ g gs, e = .returned (.tuple #[.agg #[ptrV g, .int .i64 many], .bool true]) ∧ TrAt w' (fun k => w.heap.size ≤ k) (depthOf many) g L gs
/-- What a store and a tree in it are as a plant. -/
def plantO (s : St) (t : Tr) : Option Br := if okSt s = true then plantT s t else none
theorem plant_no {s : St} {t : Tr} (h : okSt s = false ∨ ¬ formT t) : plantO s t = none := by
  unfold plantO plantT
  rcases h with h | h
  · rw [if_neg (by rw [h]; decide)]
  · rw [if_neg h]; split <;> rfl
end Go.Proofs.YtjmfefaoenmppaaGreatDoor

namespace Go.Proofs.YtjmfefaoenmppaaGreatDoor
open Go.RowKit

/-- A list of pointers is returned, in a row made since, or none. -/
def BlPost (o : Option (List P5)) (w : World) (e : Ending) (w' : World) : Prop := Below w.heap.size w w' ∧
  match o with
  | none => ∃ (A : Option Addr) (c : Nat), e = .returned (.tuple #[.slice A 0 c, .bool false])
  | some qs => ∃ g c : Nat, e = .returned (.tuple #[.slice (some ⟨g, 0, none⟩) qs.length c, .bool true]) ∧ w.heap.size ≤ g ∧ PtrsAt w' g qs
theorem belS_hole {s : St} {p : P5} {l : Nat} (h : p.hole = true) : belS s p l = some hole4 := if_pos h
theorem belS_no {s : St} {p : P5} {l : Nat} (h : p.hole = false) (hn : ¬ (p.e = (l : Int) ∧ p.b ≤ s.txg ∧ (readC s p).2 = true ∧ (∀ q ∈ (Fx.fanR (readC s p).1).1, q.b ≤ p.b) ∧ (Fx.fanR (readC s p).1).2 = true)) : belS s p l = none := by
  unfold belS
  rw [if_neg (by rw [h]; decide), if_neg (fun e => hn e.2)]
theorem belS_yes {s : St} {p : P5} {l : Nat} (h : p.hole = false) (hp : p.ok = true) (hn : p.e = (l : Int) ∧ p.b ≤ s.txg ∧ (readC s p).2 = true ∧ (∀ q ∈ (Fx.fanR (readC s p).1).1, q.b ≤ p.b) ∧ (Fx.fanR (readC s p).1).2 = true) : belS s p l = some (Fx.fanR (readC s p).1).1 := by
  unfold belS
  rw [if_neg (by rw [h]; decide), if_pos ⟨hp, hn⟩]

set_option maxRecDepth 100000 in
set_option maxHeartbeats 8000000 in
theorem spec_below (x : SA) (s : St) (a b c d e : Int) (l : Nat) (w : World) (hok : StOk s) (ht : ∀ t ∈ s.rows, t.size ≤ maxLen) (hA : StAt w x s) (hp : isOk a b c d e = true) :
    Calls Tryz.prog 80 #[.agg #[.slice x.A s.rows.length x.a, .slice x.R s.sp.refs.length x.r, .slice x.L s.sp.last.length x.l, .int .i64 s.txg, .slice x.G s.gone.length x.g, .int .i64 s.keep, .slice x.D s.dead.length x.d, .bool s.same], .agg #[.int .i64 a, .int .i64 b, .int .i64 c, .int .i64 d, .int .i64 e], .int .i64 (l : Int)] w (BlPost (belS s ⟨a, b, c, d, e⟩ l) w) := by
  have c0 := (B8.new w 38 (.slice x.A s.rows.length x.a) (.slice x.R s.sp.refs.length x.r) (.slice x.L s.sp.last.length x.l) (.int .i64 s.txg) (.slice x.G s.gone.length x.g) (.int .i64 s.keep) (.slice x.D s.dead.length x.d) (.bool s.same)).alloc (.cells #[.int .i64 a, .int .i64 b, .int .i64 c, .int .i64 d, .int .i64 e] 40)
  have g0 := B5.new (w.alloc (.cells #[.slice x.A s.rows.length x.a, .slice x.R s.sp.refs.length x.r, .slice x.L s.sp.last.length x.l, .int .i64 s.txg, .slice x.G s.gone.length x.g, .int .i64 s.keep, .slice x.D s.dead.length x.d, .bool s.same] 38)) a b c d e 40
  have BB : Below w.heap.size w ((w.alloc (.cells #[.slice x.A s.rows.length x.a, .slice x.R s.sp.refs.length x.r, .slice x.L s.sp.last.length x.l, .int .i64 s.txg, .slice x.G s.gone.length x.g, .int .i64 s.keep, .slice x.D s.dead.length x.d, .bool s.same] 38)).alloc (.cells #[.int .i64 a, .int .i64 b, .int .i64 c, .int .i64 d, .int .i64 e] 40)) := bel_new (bel_new (Below.refl _ _) _) _
  rw [World.size_alloc] at g0
  have s0 : ((w.alloc (.cells #[.slice x.A s.rows.length x.a, .slice x.R s.sp.refs.length x.r, .slice x.L s.sp.last.length x.l, .int .i64 s.txg, .slice x.G s.gone.length x.g, .int .i64 s.keep, .slice x.D s.dead.length x.d, .bool s.same] 38)).alloc (.cells #[.int .i64 a, .int .i64 b, .int .i64 c, .int .i64 d, .int .i64 e] 40)).heap.size = w.heap.size + 1 + 1 := by rw [World.size_alloc, World.size_alloc]
  have hM := fun W => spec_hole a b c d e W
  have hO := fun W => spec_pok a b c d e W
  rw [hp] at hO
  have hR := fun W (hW : Below w.heap.size w W) => spec_l7read x s a b c d e W hok ht (hA.below hW) hp
  have hsm := read_small (s := s) (p := ⟨a, b, c, d, e⟩) hp
  have hyes := @belS_yes s ⟨a, b, c, d, e⟩ l
  have hno := @belS_no s ⟨a, b, c, d, e⟩ l
  obtain ⟨⟨t, q⟩, hrd⟩ : ∃ q, q = readC s ⟨a, b, c, d, e⟩ := ⟨_, rfl⟩
  rw [← hrd] at hR hsm hyes hno
  have hF := fun W => Fx.spec_fanget t W (by simp only at hsm; omega)
  have hH := fun W => spec_holes 4 (by decide) W
  obtain ⟨O, hOO⟩ : ∃ O, O = belS s ⟨a, b, c, d, e⟩ l := ⟨_, rfl⟩
  rw [← hOO] at hyes hno ⊢
  have hhole := @belS_hole s ⟨a, b, c, d, e⟩ l
  rw [← hOO] at hhole
  simp only at hyes hno hsm
  go_enter Tryz.func80, Tryz.ntmps80
  go_upto_region 1 with fail
  generalize hW0 : (w.alloc (.cells #[.slice x.A s.rows.length x.a, .slice x.R s.sp.refs.length x.r, .slice x.L s.sp.last.length x.l, .int .i64 s.txg, .slice x.G s.gone.length x.g, .int .i64 s.keep, .slice x.D s.dead.length x.d, .bool s.same] 38)).alloc (.cells #[.int .i64 a, .int .i64 b, .int .i64 c, .int .i64 d, .int .i64 e] 40) = W0 at c0 g0 BB s0
  clear hW0 hok ht hrd hOO hsm
  obtain ⟨x0, x1, x2, x3, x4, x5, x6, x7⟩ := c0.cells
  obtain ⟨y0, y1, y2, y3, y4, hgl⟩ := id g0
  cases hh : isHole a b c d e with
  | true =>
    have HO := Lib.hid (hhole hh)
    rw [hh] at hM
    clear hyes hno hhole hh hR hF hA hp
    go_wp2_with (first | (go_at_call 72; refine (hM _).mono ?_; rintro r w2 ⟨rfl, rfl⟩) | (go_at_call 99; refine (hH _).mono ?_; rintro r w3 ⟨g, cc, rfl, hown, hb3⟩))
    go_ret2
    rw [HO.out]
    have hown2 : w3.ownsRow _ 40 5 (.slice (some ⟨g, 0, none⟩) hole4.length cc) hole4.length (flat hole4) := hown
    obtain ⟨h1, h2⟩ := ptrsAt_own hown2
    exact ⟨bel_then (bel_new BB _) hb3, g, cc, rfl, by have := (bel_new BB (.cells #[.int .i64 a, .int .i64 b, .int .i64 c, .int .i64 d, .int .i64 e] 40)).size; omega, h2⟩
  | false =>
    replace hyes := hyes hh hp
    replace hno := hno hh
    rw [hh] at hM
    by_cases h1 : e = (l : Int)
    · by_cases h2 : b ≤ s.txg
      · have he2 : (e != (l : Int)) = false := by rw [h1]; simp
        have hb2 : ¬ s.txg < b := by omega
        cases q with
        | false =>
          have HO := Lib.hid (hno (fun h => by have := h.2.2.1; cases this))
          clear hyes hno hhole hh hF hA hp h1 h2
          go_wp2_with (first | (go_at_call 72; refine (hM _).mono ?_; rintro r w2 ⟨rfl, rfl⟩) | (go_at_call 71; refine (hO _).mono ?_; rintro r w3 ⟨rfl, rfl⟩) | (go_at_call 74; refine (hR _ (bel_new (bel_new (bel_new BB _) _) _)).mono ?_; rintro r w4 ⟨rfl, hb4⟩))
          go_ret2
          rw [HO.out]
          exact ⟨bel_new (bel_then (bel_new (bel_new (bel_new BB _) _) _) hb4) _, _, _, rfl⟩
        | true =>
          obtain ⟨⟨L, f⟩, hrr⟩ : ∃ r, r = Fx.fanR t := ⟨_, rfl⟩
          have hbad := @fanR_bad t
          rw [← hrr] at hF hbad
          have hyes2 : (∀ q ∈ L, q.b ≤ b) → f = true → O = some L := fun h3 h4 => by have := hyes ⟨h1, h2, rfl, by rw [← hrr]; exact h3, by rw [← hrr]; exact h4⟩; rw [← hrr] at this; exact this
          have hno2 : ¬ ((∀ q ∈ L, q.b ≤ b) ∧ f = true) → O = none := fun h3 => hno (fun h => h3 (by have h4 := h.2.2.2; rw [← hrr] at h4; exact h4))
          have hlen : f = true → L.length = 4 := fun h => by have := fanR_len (t := t) (by rw [← hrr]; exact h); rw [← hrr] at this; exact this
          clear hyes hno hhole hh hA hp h1 h2 hrr
          go_upto_region 8 with (first | (go_at_call 72; refine (hM _).mono ?_; rintro r w2 ⟨rfl, rfl⟩) | (go_at_call 71; refine (hO _).mono ?_; rintro r w3 ⟨rfl, rfl⟩) | (go_at_call 74; refine (hR _ (bel_new (bel_new (bel_new BB _) _) _)).mono ?_; rintro r w4 ⟨rfl, hb4⟩))
          have g4 := (((g0.below (bel_new (Below.refl _ _) (.cells #[.int .i64 a, .int .i64 b, .int .i64 c, .int .i64 d, .int .i64 e] 40))).below (bel_new (Below.refl _ _) (.cells #[.int .i64 a, .int .i64 b, .int .i64 c, .int .i64 d, .int .i64 e] 40))).below (bel_new (Below.refl _ _) (.cells #[.int .i64 a, .int .i64 b, .int .i64 c, .int .i64 d, .int .i64 e] 40))).below hb4
          have B4 := bel_then (bel_new (bel_new (bel_new BB (.cells #[.int .i64 a, .int .i64 b, .int .i64 c, .int .i64 d, .int .i64 e] 40)) (.cells #[.int .i64 a, .int .i64 b, .int .i64 c, .int .i64 d, .int .i64 e] 40)) (.cells #[.int .i64 a, .int .i64 b, .int .i64 c, .int .i64 d, .int .i64 e] 40)) hb4
          clear x0 x1 x2 x3 x4 x5 x6 x7 y0 y1 y2 y3 y4 hM hO hR hH c0 g0 BB hb4
          cases f with
          | false =>
            obtain rfl : L = [] := hbad rfl
            have HO := Lib.hid (hno2 (fun h => by cases h.2))
            have hF2 : Calls Tryz.prog 100 #[.string t] w4 fun e w' => ∃ (A : Option Addr) (c : Nat), e = .returned (.tuple #[.slice A 0 c, .bool false]) ∧ Below w4.heap.size w4 w' := (hF w4).mono fun e w' ⟨hb, h⟩ => h.elim (fun ⟨h, _⟩ => by cases h) (fun ⟨_, A, c, he⟩ => ⟨A, c, he, hb⟩)
            clear hF hyes2 hno2 hbad hlen
            go_wp2_with (go_at_call 100; refine hF2.mono ?_; rintro r w5 ⟨A, cc, rfl, hb5⟩)
            go_loop [12] (fun i => i = .int .i64 0) (fun _ => 0)
            case atStart => exact rfl
            case round =>
              obtain rfl := hrel
              go_wp2_with fail
              go_ret2
              rw [HO.out]
              exact ⟨bel_then B4 hb5, _, _, rfl⟩
          | true =>
            have h4 := hlen rfl
            have hF2 : Calls Tryz.prog 100 #[.string t] w4 fun e w' => ∃ g c : Nat, e = .returned (.tuple #[.slice (some ⟨g, 0, none⟩) 4 c, .bool true]) ∧ Below w4.heap.size w4 w' ∧ w4.heap.size ≤ g ∧ PtrsAt w' g L := (hF w4).mono fun e w' ⟨hb, h⟩ => h.elim (fun ⟨_, g, c, he, ho⟩ => ⟨g, c, by rw [he]; simp only [h4], hb, ptrsAt_own ho⟩) (fun ⟨h, _⟩ => by cases h)
            clear hF hbad hlen
            go_wp2_with (go_at_call 100; refine hF2.mono ?_; rintro r w5 ⟨g, cc, rfl, hb5, hg, hP⟩; refine Hid.out ?_)
            refine Lib.hid ?_
            have g5 := g4.below hb5
            have B5w := bel_then B4 hb5
            clear hF2 g4 hb5
            go_wp2_with fail
            go_loopg [12] 4 (fun gh i wr => ∃ j : Nat, gh = 4 - j ∧ j ≤ 4 ∧ i = .int .i64 j ∧ (∀ k (hk : k < L.length), k < j → L[k].b ≤ b) ∧ Below w5.heap.size w5 wr)
            case atStart => exact ⟨0, by omega, by omega, rfl, fun k hk h => absurd h (by omega), Below.refl _ _⟩
            case round =>
              obtain ⟨j, hgh, hj, rfl, hall, hb⟩ := hrel
              have HG := Lib.hid hgh
              clear hgh
              by_cases hlt : j < 4
              · have hlt' : (j : Int) < 4 := by omega
                have hjL : j < L.length := by omega
                obtain ⟨⟨pa, pb, pc, pd, pe⟩, hpj⟩ : ∃ r, L[j] = r := ⟨_, rfl⟩
                obtain ⟨u0, u1, u2, u3, u4⟩ := (hP.below (hb.drew)).cell j hjL hpj
                obtain ⟨y0, y1, y2, y3, y4, hgl5⟩ := g5.below (hb.drew)
                by_cases hbb : b < pb
                · have HO := Lib.hid (hno2 (fun h => by have := h.1 _ (List.getElem_mem hjL); rw [hpj] at this; simp only at this; omega))
                  clear hyes2 hno2 hall hpj
                  go_upto_region 12 with fail
                  go_region
                  all_goals go_wp2_with fail
                  all_goals go_ret2
                  all_goals rw [HO.out]
                  all_goals exact ⟨bel_new (bel_then B5w hb.drew) _, _, _, rfl⟩
                · have HK : Hid (∀ k (hk : k < L.length), k < j + 1 → L[k].b ≤ b) := Lib.hid (fun k hk hkj => by
                    by_cases e1 : k = j
                    · subst e1; rw [hpj]; simp only; omega
                    · exact hall k hk (by omega))
                  clear hyes2 hno2 hall hpj
                  go_upto_region 12 with fail
                  go_region
                  all_goals go_wp2_with fail
                  all_goals go_roundg (4 - (j + 1))
                  all_goals try (have := HG.out; omega)
                  all_goals exact ⟨j + 1, rfl, by omega, by go_num, HK.out, hb.drew⟩
              · obtain rfl : j = 4 := by omega
                have HO := Lib.hid (hyes2 (fun q hq => by obtain ⟨k, hk, rfl⟩ := List.getElem_of_mem hq; exact hall k hk (by omega)) trivial)
                have HP := Lib.hid (hP.below hb)
                have H4 := Lib.hid h4
                clear hyes2 hno2 hall
                have s5 := B5w.size
                have BF := bel_then B5w hb
                have s45 := B4.size
                clear hP h4
                go_wp2_with fail
                go_ret2
                rw [HO.out]
                exact ⟨BF, g, cc, congrArg (fun n : Nat => Ending.returned (Value.tuple #[.slice (some ⟨g, 0, none⟩) n cc, .bool true])) H4.out.symm, by omega, HP.out⟩
      · have HO := Lib.hid (hno (fun h => h2 h.2.1))
        have he2 : (e != (l : Int)) = false := by rw [h1]; simp
        have hb2 : s.txg < b := by omega
        clear hyes hno hhole hh hR hF hA hp h1 h2
        go_wp2_with (first | (go_at_call 72; refine (hM _).mono ?_; rintro r w2 ⟨rfl, rfl⟩) | (go_at_call 71; refine (hO _).mono ?_; rintro r w3 ⟨rfl, rfl⟩))
        go_ret2
        rw [HO.out]
        exact ⟨bel_new (bel_new (bel_new (bel_new BB _) _) _) _, _, _, rfl⟩
    · have HO := Lib.hid (hno (fun h => h1 h.1))
      have he2 : (e != (l : Int)) = true := by rw [bne_iff_ne]; exact h1
      clear hyes hno hhole hh hR hF hA hp h1
      go_wp2_with (first | (go_at_call 72; refine (hM _).mono ?_; rintro r w2 ⟨rfl, rfl⟩) | (go_at_call 71; refine (hO _).mono ?_; rintro r w3 ⟨rfl, rfl⟩))
      go_ret2
      rw [HO.out]
      exact ⟨bel_new (bel_new (bel_new (bel_new BB _) _) _) _, _, _, rfl⟩
end Go.Proofs.YtjmfefaoenmppaaGreatDoor

namespace Go.Proofs.YtjmfefaoenmppaaGreatDoor
open Go.RowKit

theorem belS_some {s : St} {p : P5} {l : Nat} {qs : List P5} (h : belS s p l = some qs) : qs.length = 4 ∧ ∀ q ∈ qs, q.ok = true := by
  unfold belS at h
  split at h
  · injection h with h
    subst h
    exact ⟨rfl, fun q hq => by simp only [hole4, List.mem_cons, List.not_mem_nil, or_false, or_self] at hq; rw [hq]; rfl⟩
  · split at h
    · next hc =>
      injection h with h
      subst h
      exact ⟨fanR_len hc.2.2.2.2.2, fun q hq => fanR_ok hq⟩
    · cases h
theorem flat_app (a b : List P5) : flat (a ++ b) = flat a ++ flat b := by unfold flat; rw [List.flatMap_append]
theorem ptrsAt_lies {W : World} {g : Nat} {ps : List P5} (h : PtrsAt W g ps) : Lies W (some ⟨g, 0, none⟩) (flat ps) := fun _ => ⟨g, 0, rfl, h.1, h.2⟩

set_option maxRecDepth 100000 in
set_option maxHeartbeats 8000000 in
theorem spec_leaves (x : SA) (s : St) (a b c d e dep many : Int) (D : Nat) (w : World) (hok : StOk s) (ht : ∀ t ∈ s.rows, t.size ≤ maxLen) (hA : StAt w x s) (hp : isOk a b c d e = true) (hD : D ≤ 2) (hdep : dep = (D : Int)) :
    Calls Tryz.prog 49 #[.agg #[.slice x.A s.rows.length x.a, .slice x.R s.sp.refs.length x.r, .slice x.L s.sp.last.length x.l, .int .i64 s.txg, .slice x.G s.gone.length x.g, .int .i64 s.keep, .slice x.D s.dead.length x.d, .bool s.same], .agg #[.int .i64 a, .int .i64 b, .int .i64 c, .int .i64 d, .int .i64 e, .int .i64 dep, .int .i64 many]] w (BlPost (levS s D [⟨a, b, c, d, e⟩]) w) := by
  obtain ⟨i0, hi, hz0, hz1, hz2⟩ := info_parts Tryz.info40
  have c0 := (B8.new w 38 (.slice x.A s.rows.length x.a) (.slice x.R s.sp.refs.length x.r) (.slice x.L s.sp.last.length x.l) (.int .i64 s.txg) (.slice x.G s.gone.length x.g) (.int .i64 s.keep) (.slice x.D s.dead.length x.d) (.bool s.same)).alloc (.cells #[.int .i64 a, .int .i64 b, .int .i64 c, .int .i64 d, .int .i64 e, .int .i64 dep, .int .i64 many] 42)
  have t0 := B7.new (w.alloc (.cells #[.slice x.A s.rows.length x.a, .slice x.R s.sp.refs.length x.r, .slice x.L s.sp.last.length x.l, .int .i64 s.txg, .slice x.G s.gone.length x.g, .int .i64 s.keep, .slice x.D s.dead.length x.d, .bool s.same] 38)) a b c d e dep many 42
  have BB : Below w.heap.size w ((w.alloc (.cells #[.slice x.A s.rows.length x.a, .slice x.R s.sp.refs.length x.r, .slice x.L s.sp.last.length x.l, .int .i64 s.txg, .slice x.G s.gone.length x.g, .int .i64 s.keep, .slice x.D s.dead.length x.d, .bool s.same] 38)).alloc (.cells #[.int .i64 a, .int .i64 b, .int .i64 c, .int .i64 d, .int .i64 e, .int .i64 dep, .int .i64 many] 42)) := bel_new (bel_new (Below.refl _ _) _) _
  rw [World.size_alloc] at t0
  have s0 : ((w.alloc (.cells #[.slice x.A s.rows.length x.a, .slice x.R s.sp.refs.length x.r, .slice x.L s.sp.last.length x.l, .int .i64 s.txg, .slice x.G s.gone.length x.g, .int .i64 s.keep, .slice x.D s.dead.length x.d, .bool s.same] 38)).alloc (.cells #[.int .i64 a, .int .i64 b, .int .i64 c, .int .i64 d, .int .i64 e, .int .i64 dep, .int .i64 many] 42)).heap.size = w.heap.size + 1 + 1 := by rw [World.size_alloc, World.size_alloc]
  obtain ⟨R, hR⟩ : ∃ R, R = levS s D [⟨a, b, c, d, e⟩] := ⟨_, rfl⟩
  rw [← hR]
  have HR := Lib.hid hR
  have HD := Lib.hid hdep
  have hC := fun (p : P5) (l : Nat) W (hW : Below w.heap.size w W) (hpk : p.ok = true) => spec_below x s p.a p.b p.c p.d p.e l W hok ht (hA.below hW) hpk
  clear hR hdep hok ht hA
  go_enter Tryz.func49, Tryz.ntmps49
  go_upto_region 1 with fail
  generalize hW0 : (w.alloc (.cells #[.slice x.A s.rows.length x.a, .slice x.R s.sp.refs.length x.r, .slice x.L s.sp.last.length x.l, .int .i64 s.txg, .slice x.G s.gone.length x.g, .int .i64 s.keep, .slice x.D s.dead.length x.d, .bool s.same] 38)).alloc (.cells #[.int .i64 a, .int .i64 b, .int .i64 c, .int .i64 d, .int .i64 e, .int .i64 dep, .int .i64 many] 42) = W0 at c0 t0 BB s0
  clear hW0
  have S0 := Lib.hid s0
  clear s0
  obtain ⟨y0, y1, y2, y3, y4, y5, y6⟩ := t0.cells
  have o1 := World.ownsRow_lit (e := 40) (size := 5) (base := W0.heap.size) W0 #[.int .i64 a, .int .i64 b, .int .i64 c, .int .i64 d, .int .i64 e] 1 (Nat.le_refl _) (by decide) rfl
  have P1 : PtrsAt (W0.alloc (.cells #[.int .i64 a, .int .i64 b, .int .i64 c, .int .i64 d, .int .i64 e] 40)) W0.heap.size [⟨a, b, c, d, e⟩] := (ptrsAt_own (ps := [(⟨a, b, c, d, e⟩ : P5)]) o1).2
  have B1 := bel_new (Below.refl W0.heap.size W0) (.cells #[.int .i64 a, .int .i64 b, .int .i64 c, .int .i64 d, .int .i64 e] 40)
  have t1 := t0.below B1
  clear o1
  go_upto_region 2 with fail
  generalize hW1 : W0.alloc (.cells #[.int .i64 a, .int .i64 b, .int .i64 c, .int .i64 d, .int .i64 e] 40) = W1 at P1 B1 t1
  clear hW1 y0 y1 y2 y3 y4 y5 y6
  obtain ⟨y0, y1, y2, y3, y4, y5, y6⟩ := t1.cells
  rw [HD.out] at y5
  go_wp2_with fail
  go_loopg [6, 7] D (fun gh lst lev wr => ∃ (dd : Nat) (ps : List P5) (g cc : Nat), gh = dd ∧ dd ≤ D ∧ lev = .int .i64 dd ∧ lst = .slice (some ⟨g, 0, none⟩) ps.length cc ∧ w.heap.size ≤ g ∧ PtrsAt wr g ps ∧ (∀ p ∈ ps, p.ok = true) ∧ ps.length * 4 ^ dd ≤ 16 ∧ levS s dd ps = R ∧ Below W0.heap.size W0 wr)
  case atStart => exact ⟨D, [⟨a, b, c, d, e⟩], W0.heap.size, 1, rfl, Nat.le_refl _, rfl, rfl, by have := S0.out; omega, P1, fun p hm => by rw [List.mem_singleton.1 hm]; exact hp, by rcases (show D = 0 ∨ D = 1 ∨ D = 2 by omega) with h | h | h <;> rw [h] <;> simp, HR.out.symm, B1⟩
  case round =>
    clear P1 B1 t1 y0 y1 y2 y3 y4 y5 y6
    obtain ⟨dd, ps, g, cc, hg, hdd, rfl, rfl, hwg, hP, hpk, hcnt, hlev, hb⟩ := hrel
    have HG := Lib.hid hg
    clear hg
    cases dd with
    | zero =>
      have HF : Hid (BlPost R w (.returned (.tuple #[.slice (some ⟨g, 0, none⟩) ps.length cc, .bool true])) wr) := Lib.hid ⟨bel_then BB hb, by rw [← hlev]; exact ⟨g, cc, rfl, hwg, hP⟩⟩
      clear hlev hP hC
      go_wp2_with fail
      go_ret2
      exact HF.out
    | succ d1 =>
      obtain ⟨wo, hwo⟩ : ∃ W : World, W = wr := ⟨_, rfl⟩
      subst hwo
      have hd0 : (0 : Int) < ((d1 + 1 : Nat) : Int) := by omega
      have hl16 : ps.length ≤ 16 := by
        have : 1 ≤ 4 ^ (d1 + 1) := Nat.one_le_pow _ _ (by decide)
        have h2 := Nat.mul_le_mul_left ps.length this
        omega
      have o1 := World.ownsRow_made (e := 40) (base := wo.heap.size) wo (size := 5) #[] 0 (Nat.le_refl _) (by decide) rfl
      have Bn := bel_new (Below.refl wo.heap.size wo) (.cells #[] 40)
      go_wp2_with fail
      go_loopg [8, 9] ps.length (fun gh v i wr => ∃ (j g2 c2 : Nat) (acc : List P5), gh = ps.length - j ∧ j ≤ ps.length ∧ i = .int .i64 j ∧ v = .slice (some ⟨g2, 0, none⟩) acc.length c2 ∧ wr.ownsRow wo.heap.size 40 5 (.slice (some ⟨g2, 0, none⟩) acc.length c2) acc.length (flat acc) ∧ brAll (fun p => belS s p (d1 + 1)) (ps.take j) = some acc ∧ (∀ p ∈ acc, p.ok = true) ∧ acc.length = 4 * j ∧ Below wo.heap.size wo wr)
      case atStart => exact ⟨0, wo.heap.size, 0, [], by omega, by omega, rfl, rfl, o1, rfl, by simp, rfl, Bn⟩
      case round =>
        clear o1 Bn
        obtain ⟨j, g2, c2, acc, hg2, hj, rfl, rfl, ho, hacc, hak, hal, hx⟩ := hrel
        have HG2 := Lib.hid hg2
        clear hg2
        have sx := hx.size
        have sr := hb.size
        by_cases hlt : j < ps.length
        · have hlt' : (j : Int) < (ps.length : Int) := by omega
          obtain ⟨⟨pa, pb, pc, pd, pe⟩, hpj⟩ : ∃ r, ps[j] = r := ⟨_, rfl⟩
          have hpo : isOk pa pb pc pd pe = true := by have := hpk _ (List.getElem_mem hlt); rw [hpj] at this; exact this
          obtain ⟨u0, u1, u2, u3, u4⟩ := (hP.below hx.drew).cell j hlt hpj
          obtain ⟨x0, x1, x2, x3, x4, x5, x6, x7⟩ := ((c0.below hb).below hx.drew).cells
          have hCC := hC ⟨pa, pb, pc, pd, pe⟩ (d1 + 1) wr.drew (bel_then (bel_then BB hb) hx.drew) hpo
          have HP := Lib.hid hpj
          have Bx := bel_then (bel_then BB hb) hx
          cases hbl : belS s ⟨pa, pb, pc, pd, pe⟩ (d1 + 1) with
          | none =>
            rw [hbl] at hCC
            have hC2 : Calls Tryz.prog 80 #[.agg #[.slice x.A s.rows.length x.a, .slice x.R s.sp.refs.length x.r, .slice x.L s.sp.last.length x.l, .int .i64 s.txg, .slice x.G s.gone.length x.g, .int .i64 s.keep, .slice x.D s.dead.length x.d, .bool s.same], .agg #[.int .i64 pa, .int .i64 pb, .int .i64 pc, .int .i64 pd, .int .i64 pe], .int .i64 ((d1 + 1 : Nat) : Int)] wr.drew fun r w' => ∃ (A : Option Addr) (c3 : Nat), r = .returned (.tuple #[.slice A 0 c3, .bool false]) ∧ Below wr.drew.heap.size wr.drew w' := hCC.mono fun r w' h => by obtain ⟨h1, A, c3, h2⟩ := h; exact ⟨A, c3, h2, h1⟩
            have HN : Hid (R = none) := Lib.hid (by
              rw [← hlev]
              show (expS s (d1 + 1) ps).bind _ = none
              unfold expS
              rw [brAll_none (List.getElem_mem hlt) (by rw [HP.out]; exact hbl)]
              rfl)
            clear hCC hbl hC hlev hacc hak hal hpk hP hcnt hpj
            go_upto_region 9 with fail
            first
              | go_region_with (go_at_call 80; refine hC2.mono ?_; rintro r w2 ⟨A2, c3, rfl, hb2⟩)
              | fail "region"
            all_goals go_wp2_with fail
            all_goals go_ret2
            all_goals rw [HN.out]
            all_goals exact ⟨bel_new (bel_then Bx.drew hb2) _, _, _, rfl⟩
          | some qs =>
            rw [hbl] at hCC
            obtain ⟨hq4, hqo⟩ := belS_some hbl
            have hC2 : Calls Tryz.prog 80 #[.agg #[.slice x.A s.rows.length x.a, .slice x.R s.sp.refs.length x.r, .slice x.L s.sp.last.length x.l, .int .i64 s.txg, .slice x.G s.gone.length x.g, .int .i64 s.keep, .slice x.D s.dead.length x.d, .bool s.same], .agg #[.int .i64 pa, .int .i64 pb, .int .i64 pc, .int .i64 pd, .int .i64 pe], .int .i64 ((d1 + 1 : Nat) : Int)] wr.drew fun r w' => ∃ g3 c3 : Nat, r = .returned (.tuple #[.slice (some ⟨g3, 0, none⟩) 4 c3, .bool true]) ∧ Below wr.drew.heap.size wr.drew w' ∧ PtrsAt w' g3 qs := hCC.mono fun r w' h => by obtain ⟨h1, g3, c3, h2, h3, h4⟩ := h; exact ⟨g3, c3, by rw [h2, hq4], h1, h4⟩
            have HA : Hid (brAll (fun p => belS s p (d1 + 1)) (ps.take (j + 1)) = some (acc ++ qs)) := Lib.hid (by
              rw [List.take_succ_eq_append_getElem hlt, brAll_append, hacc, HP.out, brAll_one, hbl, both_some])
            have HK : Hid (∀ p ∈ acc ++ qs, p.ok = true) := Lib.hid (fun p hp => (List.mem_append.1 hp).elim (hak p) (hqo p))
            have HL : Hid ((acc ++ qs).length = 4 * (j + 1) ∧ acc.length + 4 = (acc ++ qs).length ∧ qs.length = 4 ∧ acc.length ≤ 64) := Lib.hid (by rw [List.length_append, hal, hq4]; omega)
            have hod := own_bel ho (Below.refl _ wr).drew
            clear hCC hbl hC hlev hacc hak hal hpk hP hcnt hqo hq4 hpj
            generalize hAL : acc.length = al at hod
            have HAL := Lib.hid hAL
            clear hAL ho
            go_upto_region 9 with fail
            first
              | go_region_with (go_at_call 80; refine hC2.mono ?_; rintro r w2 ⟨g3, c3, rfl, hb2, hP3⟩)
              | fail "region"
            all_goals (
              have ho2 := own_bel hod hb2
              have hL3 := ptrsAt_lies hP3
              have B2 := bel_then hx.drew hb2
              have s2 := B2.size
              go_wp2_with (at_builtin; refine wpList_append_lies2 _ rfl _ _ 36 rfl wo.heap.size 40 i0 (.agg #[.int .i64 0, .int .i64 0, .int .i64 0, .int .i64 0, .int .i64 0]) 5 40 Tryz.underlying36 hi hz0 hz1 hz2 rfl (by decide) _ _ _ rfl ho2 (some ⟨g3, 0, none⟩) 4 c3 (flat qs) rfl (by rw [flat_len, HL.out.2.2.1]) hL3 (flat_one qs) (by have := HL.out; have := HAL.out; unfold maxLen; omega) (by have := HL.out; have := HAL.out; omega) s2 ?_)
              intro v' w4 hown hgrow
              have R4 : w4.ownsRow wo.heap.size 40 5 v' (acc ++ qs).length (flat (acc ++ qs)) := by rw [flat_app, ← HL.out.2.1, HAL.out]; exact hown
              have B4 := Fx.bel_row5 B2 ho2 (Nat.le_refl _) hgrow
              obtain ⟨g4, c4, rfl⟩ := Fx.own_form5 R4 (by have := HL.out; omega)
              clear hown hgrow ho2 hod hL3 hP3 B2
              go_wp2_with fail
              go_roundg (ps.length - (j + 1))
              case measure => have := HG2.out; omega
              case rel => exact ⟨j + 1, g4, c4, acc ++ qs, rfl, by omega, by go_num, rfl, R4, HA.out, HK.out, HL.out.1, B4⟩)
        · obtain rfl : j = ps.length := by omega
          rw [List.take_length] at hacc
          obtain ⟨h1, h2⟩ := ptrsAt_own ho
          have HF : Hid (levS s d1 acc = R ∧ acc.length * 4 ^ d1 ≤ 16 ∧ w.heap.size ≤ g2) := Lib.hid ⟨by
            rw [← hlev]
            show _ = (expS s (d1 + 1) ps).bind _
            unfold expS
            rw [hacc]
            rfl, by rw [hal]; rw [Nat.pow_succ] at hcnt; rw [Nat.mul_comm 4, Nat.mul_assoc, Nat.mul_comm 4]; exact hcnt, by have := (bel_then BB hb).size; omega⟩
          have HK := Lib.hid hak
          clear hlev hacc hal hC hpk hP hcnt ho hak
          go_wp2_with fail
          go_roundg d1
          case measure => have := HG.out; omega
          case rel => exact ⟨d1, acc, g2, c2, rfl, by omega, by go_num, rfl, HF.out.2.2, h2, HK.out, HF.out.2.1, HF.out.1, bel_then hb hx⟩
end Go.Proofs.YtjmfefaoenmppaaGreatDoor
