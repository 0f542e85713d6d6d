/-
  A text is put to the waits of some disks of a set, as the reference does.
-/
import Derived.Test.YtndckncoipkhaaaKW
import Derived.Test.YtndckncoipkhaaaRCs
import Derived.Test.YtndckncoipkhaaaKA
namespace Go.Proofs.Ytndckncoipkhaaa
open Go.RowKit

/-- A disk with the cells where they lay, the waits in a new block. -/
def PutPost (base : Nat) (A : Option Addr) (c : Nat) (d : Dk) (w : World) (r : Ending) (w' : World) : Prop :=
  ∃ (b e : Nat), r = .returned (.tuple #[.agg #[.slice A d.cells.length c, .slice (some ⟨b, 0, none⟩) d.waits.length e, .bool d.gone], .bool true]) ∧ DkOwn w' base (.agg #[.slice A d.cells.length c, .slice (some ⟨b, 0, none⟩) d.waits.length e, .bool d.gone]) d ∧ Below w.heap.size w w' ∧ w.heap.size ≤ b

set_option maxRecDepth 100000 in
set_option maxHeartbeats 4000000 in
theorem l3write_put (base : Nat) (A B : Option Addr) (c e : Nat) (d : Dk) (n : Int) (t : ByteArray) (w : World) (hbase : base ≤ w.heap.size) (hA : DkOwn w base (.agg #[.slice A d.cells.length c, .slice B d.waits.length e, .bool d.gone]) d) (hsz : t.size ≤ maxLen) (hyes : Take d n t ∧ d.waits.length < 120) :
    Calls Try.prog 89 #[.agg #[.slice A d.cells.length c, .slice B d.waits.length e, .bool d.gone], .int .i64 n, .string t] w (PutPost base A c ⟨d.cells, d.waits ++ [⟨n, t⟩], d.gone⟩ w) := by
  obtain ⟨j0, hj, hy0, hy1, hy2⟩ := info_parts Try.info94
  obtain ⟨⟨hg, hn1, hn2, hs⟩, h120⟩ := hyes
  have hC := fun w => s_cell n w
  rw [cellB_yes ⟨hn1, hn2⟩] at hC
  have hs' : ¬ (200 : Int) < (t.size : Int) := by omega
  have hw : ¬ (120 : Int) ≤ (d.waits.length : Int) := by omega
  have K0 := TwoB.new w (.slice A d.cells.length c) (.slice B d.waits.length e) (.bool d.gone)
  have bx := TwoB.bx1 w (.slice A d.cells.length c) (.slice B d.waits.length e) (.bool d.gone)
  have by_ := TwoB.bx2 w (.slice A d.cells.length c) (.slice B d.waits.length e) (.bool d.gone)
  have hl := hA.lies.2
  obtain ⟨tt, htt, h1, h2⟩ := hA.rows
  have s0 : w.heap.size + 1 + 1 ≤ ((w.alloc (.cells #[.slice A d.cells.length c, .slice B d.waits.length e, .bool d.gone] 60)).alloc (.cells #[.slice none 0 0, .slice none 0 0, .bool false] 60)).heap.size := by simp
  have h1 := own_bel h1 K0.one.2.2.2
  have hl := hl.below K0.one.2.2.2
  clear hA
  rw [hg] at K0 bx by_ h1 hl s0 ⊢
  clear hg hs h2
  unfold maxLen at hsz
  go_enter Try.func89, Try.ntmps89
  go_upto_region 3 with (go_at_call 84; refine (hC _).mono ?_; rintro r w' ⟨rfl, rfl⟩)
  obtain ⟨W0, hW0⟩ : ∃ W, W = (w.alloc (.cells #[.slice A d.cells.length c, .slice B d.waits.length e, .bool false] 60)).alloc (.cells #[.slice none 0 0, .slice none 0 0, .bool false] 60) := ⟨_, rfl⟩
  rw [← hW0] at K0 s0 bx by_ h1 hl ⊢
  clear hW0
  obtain ⟨x0, x1, x2, y0, y1, y2, f0, f1, f2, sg, sh, B0⟩ := id K0
  have hm := World.ownsRow_made (e := 94) (size := 2) (base := w.heap.size + 1 + 1) W0 #[] 0 s0 (Nat.zero_le _) rfl
  have hl1 := hl.alloc (.cells #[] 94)
  go_wp2_with (at_builtin; refine wpList_append_lies2 _ rfl _ _ 58 rfl (w.heap.size + 1 + 1) 94 j0 (.agg #[.int .i64 0, .string ⟨#[]⟩]) 2 24 Try.underlying58 hj hy0 hy1 hy2 rfl (by decide) _ _ _ rfl hm B d.waits.length e (wtCells d.waits) rfl (wtCells_len _) hl1 (wtCells_one _) (by unfold maxLen; omega) (by omega) (by simp; omega) ?_; intro v5 w5 o5 g5; refine Hid.out ?_)
  refine Lib.hid ?_
  rw [Nat.zero_add, List.nil_append] at o5
  have g5 : (W0.alloc (.cells #[] 94)).grownBy w5 (some W0.heap.size) := g5
  have s5 := g5.size
  rw [World.size_alloc] at s5
  have K5 := (K0.alloc (.cells #[] 94)).grown g5 (fun b e => by cases e; omega)
  have bx5 : Bx w5 w.heap.size 60 _ _ _ := (g5.block w.heap.size (by simp; omega) (fun e => by injection e with e; omega)).trans (bx.alloc (.cells #[] 94))
  have by5 : Bx w5 (w.heap.size + 1) 60 _ _ _ := (g5.block (w.heap.size + 1) (by simp; omega) (fun e => by injection e with e; omega)).trans (by_.alloc (.cells #[] 94))
  have h15 := (h1.alloc (.cells #[] 94)).kept g5 (.inr (fun e => absurd (h1.lt _ e).2 (Nat.lt_irrefl _)))
  obtain ⟨B5, e5, rfl, _⟩ := own_lies o5
  clear hm hl1 g5 h1 hl x0 x1 x2 y0 y1 y2 f0 f1 f2 sg sh B0 K0 bx by_
  obtain ⟨x0, x1, x2, y0, y1, y2, f0, f1, f2, sg, sh, B0⟩ := id K5
  have h2b := o5.alloc (.cells #[.int .i64 n, .string t] 94)
  have HL := lies_two w5 n t
  go_wp2_with (at_builtin; refine wpList_append_lies2 _ rfl _ _ 58 rfl (w.heap.size + 1 + 1) 94 j0 (.agg #[.int .i64 0, .string ⟨#[]⟩]) 2 24 Try.underlying58 hj hy0 hy1 hy2 rfl (by decide) _ _ _ rfl h2b (some ⟨w5.heap.size, 0, none⟩) 1 1 [.int .i64 n, .string t] rfl rfl HL (by simp [Value.oneCell']) (by unfold maxLen; omega) (by omega) (by simp; omega) ?_; intro v6 w6 o6 g6; refine Hid.out ?_)
  refine Lib.hid ?_
  have g6 : (w5.alloc (.cells #[.int .i64 n, .string t] 94)).grownBy w6 (Value.slice B5 d.waits.length e5).ownBlock := g6
  have KA := K5.alloc (.cells #[.int .i64 n, .string t] 94)
  have K6 := KA.grown g6 (fun b e => by have := (o5.lt b e).1; omega)
  have bx6 : Bx w6 w.heap.size 60 _ _ _ := (g6.block w.heap.size (by simp; omega) (fun e => by have := (o5.lt _ e.symm).1; omega)).trans (bx5.alloc (.cells #[.int .i64 n, .string t] 94))
  have by6 : Bx w6 (w.heap.size + 1) 60 _ _ _ := (g6.block (w.heap.size + 1) (by simp; omega) (fun e => by have := (o5.lt _ e.symm).1; omega)).trans (by5.alloc (.cells #[.int .i64 n, .string t] 94))
  have h16 := (h15.alloc (.cells #[.int .i64 n, .string t] 94)).kept g6 (own_ne h2b (h15.alloc _) (by rcases htt with rfl | rfl <;> decide))
  rw [← wt_snoc] at o6
  clear h2b HL g6 x0 x1 x2 y0 y1 y2 f0 f1 f2 sg sh B0 K5 KA bx5 by5 h15 o5
  obtain ⟨B6, e6, rfl, _⟩ := own_lies o6
  obtain ⟨b6, rfl⟩ := own_addr o6 (by omega)
  have hb6 : w.heap.size ≤ b6 := by have := (o6.lt b6 rfl).1; omega
  obtain ⟨x0, x1, x2, y0, y1, y2, f0, f1, f2, sg, sh, B0⟩ := id K6
  obtain ⟨_, q0, q1, q2⟩ := bx6.cells
  have q3 : w.heap.size ≠ w.heap.size + 1 := by omega
  go_wp2_with fail
  have ow : DkOwn w6 base (.agg #[.slice A d.cells.length c, .slice (some ⟨b6, 0, none⟩) (d.waits.length + 1) e6, .bool false]) ⟨d.cells, d.waits ++ [⟨n, t⟩], false⟩ :=
    ⟨tt, _, _, rfl, htt, h16, own_base (by rw [List.length_append]; exact o6) (by omega)⟩
  have ow2 := (ow.set_box bx6 1 (.slice (some ⟨b6, 0, none⟩) (d.waits.length + 1) e6)).box2 (by6.set (p := ⟨w.heap.size, 1, none⟩) (by simp) (.slice (some ⟨b6, 0, none⟩) (d.waits.length + 1) e6)) (.slice A d.cells.length c) (.slice (some ⟨b6, 0, none⟩) (d.waits.length + 1) e6) (.bool false)
  have BB := bel_box (B0.setCell (p := ⟨w.heap.size, 1, none⟩) (Nat.le_refl _) (.slice (some ⟨b6, 0, none⟩) (d.waits.length + 1) e6)) (show w.heap.size ≤ w.heap.size + 1 by omega) (.slice A d.cells.length c) (.slice (some ⟨b6, 0, none⟩) (d.waits.length + 1) e6) (.bool false)
  have hll : d.waits.length + 1 = (d.waits ++ [(⟨n, t⟩ : Wt)]).length := by rw [List.length_append]; rfl
  refine bodyPost_ret (v := .tuple #[.agg #[.slice A d.cells.length c, .slice (some ⟨b6, 0, none⟩) (d.waits.length + 1) e6, .bool false], .bool true]) (by simp [results, Try.f89, go_sem, y0, y1, y2]) rfl ?_
  rw [hll] at ow2 BB ⊢
  exact ⟨b6, e6, rfl, ow2, BB, hb6⟩

/-- A disk is left as it was. -/
theorem Half.skip {W : World} {base g c k : Nat} {ps cur : List RD} (h : Half W base g c k ps cur) (hk : k < ps.length) (hap : ps.Pairwise (fun p q => p.h ≤ q.l ∨ q.h ≤ p.l)) : Half W base g c (k + 1) ps cur := by
  have hlen := h.len
  refine ⟨h.len, h.row, fun i hi hik => ?_, fun j hj hkj => h.rest j hj (by omega)⟩
  by_cases e : i = k
  · subst e
    obtain ⟨hck, hin, hb0, hb1, hgn⟩ := h.rest i hk (Nat.le_refl _)
    rw [hck]
    refine ⟨hin.wide hb0 hb1, fun j hj hkj b hb => ?_⟩
    have hlt : ps[i].l ≤ b ∧ b < ps[i].h := by
      obtain ⟨t, u1, u2, ee, ht, ⟨q1, t1⟩, ⟨q2, t2⟩⟩ := hin
      simp only [RD.val, Value.agg.injEq, Array.mk.injEq, List.cons.injEq, and_true] at ee
      obtain ⟨rfl, rfl⟩ := ee
      rcases hb with e2 | e2
      · rw [e2] at q1 t1
        exact ⟨(q1.lt b rfl).1, t1 b rfl⟩
      · rw [e2] at q2 t2
        exact ⟨(q2.lt b rfl).1, t2 b rfl⟩
    have := List.pairwise_iff_getElem.1 hap i j hk hj (by omega)
    omega
  · obtain ⟨a, av⟩ := h.done i hi (by omega)
    exact ⟨a, fun j hj hkj => av j hj (by omega)⟩

instance (d : Dk) (n : Int) (t : ByteArray) : Decidable (Take d n t) := by unfold Take; infer_instance
/-- What becomes of a disk that a text is put to. -/
def putD (d : Dk) (n : Int) (t : ByteArray) (v : Bool) : Option Dk :=
  if d.gone = true ∨ v = false then some d else if Take d n t ∧ d.waits.length < 120 then some ⟨d.cells, d.waits ++ [⟨n, t⟩], d.gone⟩ else none
def putF (R : List Dk) (n : Int) (cs : List ByteArray) (vs : List Bool) (j : Nat) : Option Dk := putD (R.getD j dk0) n (cs.getD j none8) (vs.getD j false)
def PutOk (R : List Dk) (n : Int) (cs : List ByteArray) (vs : List Bool) : Prop := ∀ j, j < R.length → (putF R n cs vs j).isSome
def putL (R : List Dk) (n : Int) (cs : List ByteArray) (vs : List Bool) : List Dk := (List.range R.length).map fun j => (putF R n cs vs j).getD dk0
theorem putL_len (R : List Dk) (n : Int) (cs : List ByteArray) (vs : List Bool) : (putL R n cs vs).length = R.length := by simp [putL]
theorem putL_at (R : List Dk) (n : Int) (cs : List ByteArray) (vs : List Bool) (j : Nat) (h : j < R.length) (d : Dk) (hd : putF R n cs vs j = some d) : (putL R n cs vs)[j]'(by rw [putL_len]; exact h) = d := by
  simp [putL, hd]
theorem partT_same {T R : List Dk} (hl : T.length = R.length) {k : Nat} (h : k < R.length) (he : T[k]'(by omega) = R[k]) : partT T R k = partT T R (k + 1) := by
  unfold partT
  rw [List.drop_eq_getElem_cons h, List.take_succ_eq_append_getElem (by omega), List.append_assoc, he]
  rfl
end Go.Proofs.Ytndckncoipkhaaa
