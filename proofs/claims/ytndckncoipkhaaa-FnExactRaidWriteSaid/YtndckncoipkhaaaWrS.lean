/-
  DiskWrite, the model's.
-/
import Derived.Test.YtndckncoipkhaaaWrY
namespace Go.Proofs.Ytndckncoipkhaaa
open Go.RowKit

/-- A disk and a bool are returned, the disk in blocks from base on. -/
def OPost2 (base : Nat) (d : Dk) (b : Bool) (w : World) (r : Ending) (w' : World) : Prop :=
  ∃ A c B e, r = .returned (.tuple #[.agg #[.slice A d.cells.length c, .slice B d.waits.length e, .bool d.gone], .bool b]) ∧ DkOwn w' base (.agg #[.slice A d.cells.length c, .slice B d.waits.length e, .bool d.gone]) d ∧ Below w.heap.size w w'
theorem OPost2.mk {base : Nat} {d : Dk} {b : Bool} {w W : World} {A B : Option Addr} {c e : Nat} (h : DkOwn W base (.agg #[.slice A d.cells.length c, .slice B d.waits.length e, .bool d.gone]) d) (hb : Below w.heap.size w W) :
    OPost2 base d b w (.returned (.tuple #[.agg #[.slice A d.cells.length c, .slice B d.waits.length e, .bool d.gone], .bool b])) W := ⟨_, _, _, _, rfl, h, hb⟩

theorem TwoB.bx1 (w : World) (x y z : Value) : Bx ((w.alloc (.cells #[x, y, z] 60)).alloc (.cells #[.slice none 0 0, .slice none 0 0, .bool false] 60)) w.heap.size 60 x y z := (Bx.new w 60 x y z).alloc _
theorem TwoB.bx2 (w : World) (x y z : Value) : Bx ((w.alloc (.cells #[x, y, z] 60)).alloc (.cells #[.slice none 0 0, .slice none 0 0, .bool false] 60)) (w.heap.size + 1) 60 (.slice none 0 0) (.slice none 0 0) (.bool false) := by
  have := Bx.new (w.alloc (.cells #[x, y, z] 60)) 60 (.slice none 0 0) (.slice none 0 0) (.bool false)
  rw [World.size_alloc] at this
  exact this
/-- A box of disks takes three cells. -/
theorem Bx.set0 {W : World} {g : Nat} {t : TypeId} {x y z : Value} (h : Bx W g t x y z) (u : Value) : Bx (W.setCell ⟨g, 0, none⟩ u) g t u y z := by
  unfold Bx at h ⊢
  simp [World.setCell, Array.getElem?_modify, h]
theorem Bx.set1 {W : World} {g : Nat} {t : TypeId} {x y z : Value} (h : Bx W g t x y z) (u : Value) : Bx (W.setCell ⟨g, 1, none⟩ u) g t x u z := by
  unfold Bx at h ⊢
  simp [World.setCell, Array.getElem?_modify, h]
theorem Bx.set2 {W : World} {g : Nat} {t : TypeId} {x y z : Value} (h : Bx W g t x y z) (u : Value) : Bx (W.setCell ⟨g, 2, none⟩ u) g t x y u := by
  unfold Bx at h ⊢
  simp [World.setCell, Array.getElem?_modify, h]
theorem DkOwn.box2 {w : World} {base g : Nat} {v x y z : Value} {d : Dk} (h : DkOwn w base v d) (b : Bx w g 60 x y z) (p q r : Value) : DkOwn (((w.setCell ⟨g, 0, none⟩ p).setCell ⟨g, 1, none⟩ q).setCell ⟨g, 2, none⟩ r) base v d :=
  ((h.set_box b 0 p).set_box (b.set0 p) 1 q).set_box ((b.set0 p).set1 q) 2 r

set_option maxRecDepth 100000 in
set_option maxHeartbeats 4000000 in
theorem l3write_no (base : Nat) (A B : Option Addr) (c e : Nat) (d : Dk) (n : Int) (t : ByteArray) (w : World) (hA : DkOwn w base (.agg #[.slice A d.cells.length c, .slice B d.waits.length e, .bool d.gone]) d) (hok : DkOk d) (hsz : t.size ≤ maxLen) (hno : ¬ (Take d n t ∧ d.waits.length < 120)) :
    Calls Try.prog 89 #[.agg #[.slice A d.cells.length c, .slice B d.waits.length e, .bool d.gone], .int .i64 n, .string t] w (OPost2 base d false w) := by
  have hC := fun w => s_cell n w
  have bl : Below w.heap.size w ((w.alloc (.cells #[.slice A d.cells.length c, .slice B d.waits.length e, .bool d.gone] 60)).alloc (.cells #[.slice A d.cells.length c, .slice B d.waits.length e, .bool d.gone] 60)) := bel_new (bel_new (Below.refl _ _) _) _
  have fin := OPost2.mk (b := false) (hA.below bl) bl
  have h120 := hok.2.1
  unfold maxLen at hsz
  clear bl hA
  by_cases hg : d.gone = false
  · by_cases hn : 0 ≤ n ∧ n ≤ 63
    · rw [cellB_yes hn] at hC
      have hno2 : t.size ≤ 200 → ¬ d.waits.length < 120 := fun hs h2 => hno ⟨⟨hg, hn.1, hn.2, hs⟩, h2⟩
      rw [hg] at fin ⊢
      have FIN := Lib.hid fin
      clear hno hok hn h120 hg fin
      by_cases hs : t.size ≤ 200
      · have hs' : ¬ (200 : Int) < (t.size : Int) := by omega
        have hw : (120 : Int) ≤ (d.waits.length : Int) := by have := hno2 hs; omega
        clear hs hno2
        go_enter Try.func89, Try.ntmps89
        go_wp2_with (go_at_call 84; refine (hC _).mono ?_; rintro r w' ⟨rfl, rfl⟩)
        exact bodyPost_ret (v := .tuple #[.agg #[.slice A d.cells.length c, .slice B d.waits.length e, .bool false], .bool false]) (by simp [results, Try.f89, go_sem]) rfl FIN.out
      · have hs' : (200 : Int) < (t.size : Int) := by omega
        clear hs hno2
        go_enter Try.func89, Try.ntmps89
        go_wp2_with (go_at_call 84; refine (hC _).mono ?_; rintro r w' ⟨rfl, rfl⟩)
        exact bodyPost_ret (v := .tuple #[.agg #[.slice A d.cells.length c, .slice B d.waits.length e, .bool false], .bool false]) (by simp [results, Try.f89, go_sem]) rfl FIN.out
    · rw [cellB_no hn] at hC
      rw [hg] at fin ⊢
      have FIN := Lib.hid fin
      clear hno hok hn h120 hg fin
      go_enter Try.func89, Try.ntmps89
      go_wp2_with (go_at_call 84; refine (hC _).mono ?_; rintro r w' ⟨rfl, rfl⟩)
      exact bodyPost_ret (v := .tuple #[.agg #[.slice A d.cells.length c, .slice B d.waits.length e, .bool false], .bool false]) (by simp [results, Try.f89, go_sem]) rfl FIN.out
  · have hg' : d.gone = true := by simpa using hg
    rw [hg'] at fin ⊢
    have FIN := Lib.hid fin
    clear hno hok h120 hg hg' hC fin
    go_enter Try.func89, Try.ntmps89
    go_wp2
    exact bodyPost_ret (v := .tuple #[.agg #[.slice A d.cells.length c, .slice B d.waits.length e, .bool true], .bool false]) (by simp [results, Try.f89, go_sem]) rfl FIN.out

set_option maxRecDepth 100000 in
set_option maxHeartbeats 4000000 in
theorem l3write_yes (base : Nat) (A B : Option Addr) (c e : Nat) (d : Dk) (n : Int) (t : ByteArray) (w : World) (hbase : base ≤ w.heap.size) (hA : DkOwn w base (.agg #[.slice A d.cells.length c, .slice B d.waits.length e, .bool d.gone]) d) (hsz : t.size ≤ maxLen) (hyes : Take d n t ∧ d.waits.length < 120) :
    Calls Try.prog 89 #[.agg #[.slice A d.cells.length c, .slice B d.waits.length e, .bool d.gone], .int .i64 n, .string t] w (OPost2 base ⟨d.cells, d.waits ++ [⟨n, t⟩], d.gone⟩ true w) := by
  obtain ⟨j0, hj, hy0, hy1, hy2⟩ := info_parts Try.info94
  obtain ⟨⟨hg, hn1, hn2, hs⟩, h120⟩ := hyes
  have hC := fun w => s_cell n w
  rw [cellB_yes ⟨hn1, hn2⟩] at hC
  have hs' : ¬ (200 : Int) < (t.size : Int) := by omega
  have hw : ¬ (120 : Int) ≤ (d.waits.length : Int) := by omega
  have K0 := TwoB.new w (.slice A d.cells.length c) (.slice B d.waits.length e) (.bool d.gone)
  have bx := TwoB.bx1 w (.slice A d.cells.length c) (.slice B d.waits.length e) (.bool d.gone)
  have by_ := TwoB.bx2 w (.slice A d.cells.length c) (.slice B d.waits.length e) (.bool d.gone)
  have hl := hA.lies.2
  obtain ⟨tt, htt, h1, h2⟩ := hA.rows
  have s0 : w.heap.size + 1 + 1 ≤ ((w.alloc (.cells #[.slice A d.cells.length c, .slice B d.waits.length e, .bool d.gone] 60)).alloc (.cells #[.slice none 0 0, .slice none 0 0, .bool false] 60)).heap.size := by simp
  have h1 := own_bel h1 K0.one.2.2.2
  have hl := hl.below K0.one.2.2.2
  clear hA
  rw [hg] at K0 bx by_ h1 hl s0 ⊢
  clear hg hs h2
  unfold maxLen at hsz
  go_enter Try.func89, Try.ntmps89
  go_upto_region 3 with (go_at_call 84; refine (hC _).mono ?_; rintro r w' ⟨rfl, rfl⟩)
  obtain ⟨W0, hW0⟩ : ∃ W, W = (w.alloc (.cells #[.slice A d.cells.length c, .slice B d.waits.length e, .bool false] 60)).alloc (.cells #[.slice none 0 0, .slice none 0 0, .bool false] 60) := ⟨_, rfl⟩
  rw [← hW0] at K0 s0 bx by_ h1 hl ⊢
  clear hW0
  obtain ⟨x0, x1, x2, y0, y1, y2, f0, f1, f2, sg, sh, B0⟩ := id K0
  have hm := World.ownsRow_made (e := 94) (size := 2) (base := w.heap.size + 1 + 1) W0 #[] 0 s0 (Nat.zero_le _) rfl
  have hl1 := hl.alloc (.cells #[] 94)
  go_wp2_with (at_builtin; refine wpList_append_lies2 _ rfl _ _ 58 rfl (w.heap.size + 1 + 1) 94 j0 (.agg #[.int .i64 0, .string ⟨#[]⟩]) 2 24 Try.underlying58 hj hy0 hy1 hy2 rfl (by decide) _ _ _ rfl hm B d.waits.length e (wtCells d.waits) rfl (wtCells_len _) hl1 (wtCells_one _) (by unfold maxLen; omega) (by omega) (by simp; omega) ?_; intro v5 w5 o5 g5; refine Hid.out ?_)
  refine Lib.hid ?_
  rw [Nat.zero_add, List.nil_append] at o5
  have g5 : (W0.alloc (.cells #[] 94)).grownBy w5 (some W0.heap.size) := g5
  have s5 := g5.size
  rw [World.size_alloc] at s5
  have K5 := (K0.alloc (.cells #[] 94)).grown g5 (fun b e => by cases e; omega)
  have bx5 : Bx w5 w.heap.size 60 _ _ _ := (g5.block w.heap.size (by simp; omega) (fun e => by injection e with e; omega)).trans (bx.alloc (.cells #[] 94))
  have by5 : Bx w5 (w.heap.size + 1) 60 _ _ _ := (g5.block (w.heap.size + 1) (by simp; omega) (fun e => by injection e with e; omega)).trans (by_.alloc (.cells #[] 94))
  have h15 := (h1.alloc (.cells #[] 94)).kept g5 (.inr (fun e => absurd (h1.lt _ e).2 (Nat.lt_irrefl _)))
  obtain ⟨B5, e5, rfl, _⟩ := own_lies o5
  clear hm hl1 g5 h1 hl x0 x1 x2 y0 y1 y2 f0 f1 f2 sg sh B0 K0 bx by_
  obtain ⟨x0, x1, x2, y0, y1, y2, f0, f1, f2, sg, sh, B0⟩ := id K5
  have h2b := o5.alloc (.cells #[.int .i64 n, .string t] 94)
  have HL := lies_two w5 n t
  go_wp2_with (at_builtin; refine wpList_append_lies2 _ rfl _ _ 58 rfl (w.heap.size + 1 + 1) 94 j0 (.agg #[.int .i64 0, .string ⟨#[]⟩]) 2 24 Try.underlying58 hj hy0 hy1 hy2 rfl (by decide) _ _ _ rfl h2b (some ⟨w5.heap.size, 0, none⟩) 1 1 [.int .i64 n, .string t] rfl rfl HL (by simp [Value.oneCell']) (by unfold maxLen; omega) (by omega) (by simp; omega) ?_; intro v6 w6 o6 g6; refine Hid.out ?_)
  refine Lib.hid ?_
  have g6 : (w5.alloc (.cells #[.int .i64 n, .string t] 94)).grownBy w6 (Value.slice B5 d.waits.length e5).ownBlock := g6
  have KA := K5.alloc (.cells #[.int .i64 n, .string t] 94)
  have K6 := KA.grown g6 (fun b e => by have := (o5.lt b e).1; omega)
  have bx6 : Bx w6 w.heap.size 60 _ _ _ := (g6.block w.heap.size (by simp; omega) (fun e => by have := (o5.lt _ e.symm).1; omega)).trans (bx5.alloc (.cells #[.int .i64 n, .string t] 94))
  have by6 : Bx w6 (w.heap.size + 1) 60 _ _ _ := (g6.block (w.heap.size + 1) (by simp; omega) (fun e => by have := (o5.lt _ e.symm).1; omega)).trans (by5.alloc (.cells #[.int .i64 n, .string t] 94))
  have h16 := (h15.alloc (.cells #[.int .i64 n, .string t] 94)).kept g6 (own_ne h2b (h15.alloc _) (by rcases htt with rfl | rfl <;> decide))
  rw [← wt_snoc] at o6
  clear h2b HL g6 x0 x1 x2 y0 y1 y2 f0 f1 f2 sg sh B0 K5 KA bx5 by5 h15 o5
  obtain ⟨B6, e6, rfl, _⟩ := own_lies o6
  obtain ⟨x0, x1, x2, y0, y1, y2, f0, f1, f2, sg, sh, B0⟩ := id K6
  obtain ⟨_, q0, q1, q2⟩ := bx6.cells
  have q3 : w.heap.size ≠ w.heap.size + 1 := by omega
  go_wp2_with fail
  have ow : DkOwn w6 base (.agg #[.slice A d.cells.length c, .slice B6 (d.waits.length + 1) e6, .bool false]) ⟨d.cells, d.waits ++ [⟨n, t⟩], false⟩ :=
    ⟨tt, _, _, rfl, htt, h16, own_base (by rw [List.length_append]; exact o6) (by omega)⟩
  have ow2 := (ow.set_box bx6 1 (.slice B6 (d.waits.length + 1) e6)).box2 (by6.set (p := ⟨w.heap.size, 1, none⟩) (by simp) (.slice B6 (d.waits.length + 1) e6)) (.slice A d.cells.length c) (.slice B6 (d.waits.length + 1) e6) (.bool false)
  have BB := bel_box (B0.setCell (p := ⟨w.heap.size, 1, none⟩) (Nat.le_refl _) (.slice B6 (d.waits.length + 1) e6)) (show w.heap.size ≤ w.heap.size + 1 by omega) (.slice A d.cells.length c) (.slice B6 (d.waits.length + 1) e6) (.bool false)
  have hll : d.waits.length + 1 = (d.waits ++ [(⟨n, t⟩ : Wt)]).length := by rw [List.length_append]; rfl
  refine bodyPost_ret (v := .tuple #[.agg #[.slice A d.cells.length c, .slice B6 (d.waits.length + 1) e6, .bool false], .bool true]) (by simp [results, Try.f89, go_sem, y0, y1, y2]) rfl ?_
  rw [hll] at ow2 BB ⊢
  exact OPost2.mk (d := ⟨d.cells, d.waits ++ [⟨n, t⟩], false⟩) ow2 BB

theorem l3write (base : Nat) (A B : Option Addr) (c e : Nat) (d : Dk) (n : Int) (t : ByteArray) (w : World) (hbase : base ≤ w.heap.size) (hA : DkOwn w base (.agg #[.slice A d.cells.length c, .slice B d.waits.length e, .bool d.gone]) d) (hok : DkOk d) (hsz : t.size ≤ maxLen) :
    Calls Try.prog 89 #[.agg #[.slice A d.cells.length c, .slice B d.waits.length e, .bool d.gone], .int .i64 n, .string t] w (OPost2 base (writeD d n t).1 (writeD d n t).2 w) := by
  by_cases hy : Take d n t ∧ d.waits.length < 120
  · rw [writeD_yes hok ⟨hy.1.1, hy.1.2.1, hy.1.2.2.1, hy.1.2.2.2, hy.2⟩]
    exact l3write_yes base A B c e d n t w hbase hA hsz hy
  · rw [writeD_no hok (fun h => hy ⟨⟨h.1, h.2.1, h.2.2.1, h.2.2.2.1⟩, h.2.2.2.2⟩)]
    exact l3write_no base A B c e d n t w hA hok hsz hy

end Go.Proofs.Ytndckncoipkhaaa
