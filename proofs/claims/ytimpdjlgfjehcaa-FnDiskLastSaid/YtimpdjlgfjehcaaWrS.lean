/-
  DiskWrite, the model's.
-/
import Derived.Test.YtimpdjlgfjehcaaWrY
namespace Go.Proofs.Ytimpdjlgfjehcaa
open Go.RowKit

/-- A disk and a bool are returned, the disk in blocks from base on. -/
def OPost2 (base : Nat) (d : Dk) (b : Bool) (w : World) (r : Ending) (w' : World) : Prop :=
  ∃ A c B e, r = .returned (.tuple #[.agg #[.slice A d.cells.length c, .slice B d.waits.length e, .bool d.gone], .bool b]) ∧ DkOwn w' base (.agg #[.slice A d.cells.length c, .slice B d.waits.length e, .bool d.gone]) d ∧ Below w.heap.size w w'
theorem OPost2.mk {base : Nat} {d : Dk} {b : Bool} {w W : World} {A B : Option Addr} {c e : Nat} (h : DkOwn W base (.agg #[.slice A d.cells.length c, .slice B d.waits.length e, .bool d.gone]) d) (hb : Below w.heap.size w W) :
    OPost2 base d b w (.returned (.tuple #[.agg #[.slice A d.cells.length c, .slice B d.waits.length e, .bool d.gone], .bool b])) W := ⟨_, _, _, _, rfl, h, hb⟩

theorem TwoB.bx1 (w : World) (x y z : Value) : Bx ((w.alloc (.cells #[x, y, z] 26)).alloc (.cells #[.slice none 0 0, .slice none 0 0, .bool false] 26)) w.heap.size 26 x y z := (Bx.new w 26 x y z).alloc _
theorem TwoB.bx2 (w : World) (x y z : Value) : Bx ((w.alloc (.cells #[x, y, z] 26)).alloc (.cells #[.slice none 0 0, .slice none 0 0, .bool false] 26)) (w.heap.size + 1) 26 (.slice none 0 0) (.slice none 0 0) (.bool false) := by
  have := Bx.new (w.alloc (.cells #[x, y, z] 26)) 26 (.slice none 0 0) (.slice none 0 0) (.bool false)
  rw [World.size_alloc] at this
  exact this
/-- A box of disks takes three cells. -/
theorem Bx.set0 {W : World} {g : Nat} {t : TypeId} {x y z : Value} (h : Bx W g t x y z) (u : Value) : Bx (W.setCell ⟨g, 0, none⟩ u) g t u y z := by
  unfold Bx at h ⊢
  simp [World.setCell, Array.getElem?_modify, h]
theorem Bx.set1 {W : World} {g : Nat} {t : TypeId} {x y z : Value} (h : Bx W g t x y z) (u : Value) : Bx (W.setCell ⟨g, 1, none⟩ u) g t x u z := by
  unfold Bx at h ⊢
  simp [World.setCell, Array.getElem?_modify, h]
theorem Bx.set2 {W : World} {g : Nat} {t : TypeId} {x y z : Value} (h : Bx W g t x y z) (u : Value) : Bx (W.setCell ⟨g, 2, none⟩ u) g t x y u := by
  unfold Bx at h ⊢
  simp [World.setCell, Array.getElem?_modify, h]
theorem DkOwn.box2 {w : World} {base g : Nat} {v x y z : Value} {d : Dk} (h : DkOwn w base v d) (b : Bx w g 26 x y z) (p q r : Value) : DkOwn (((w.setCell ⟨g, 0, none⟩ p).setCell ⟨g, 1, none⟩ q).setCell ⟨g, 2, none⟩ r) base v d :=
  ((h.set_box b 0 p).set_box (b.set0 p) 1 q).set_box ((b.set0 p).set1 q) 2 r

set_option maxRecDepth 100000 in
set_option maxHeartbeats 4000000 in
theorem l3write_no (base : Nat) (A B : Option Addr) (c e : Nat) (d : Dk) (n : Int) (t : ByteArray) (w : World) (hA : DkOwn w base (.agg #[.slice A d.cells.length c, .slice B d.waits.length e, .bool d.gone]) d) (hok : DkOk d) (hsz : t.size ≤ maxLen) (hno : ¬ (Take d n t ∧ d.waits.length < 120)) :
    Calls Try.prog 35 #[.agg #[.slice A d.cells.length c, .slice B d.waits.length e, .bool d.gone], .int .i64 n, .string t] w (OPost2 base d false w) := by
  have hC := fun w => s_cell n w
  have bl : Below w.heap.size w ((w.alloc (.cells #[.slice A d.cells.length c, .slice B d.waits.length e, .bool d.gone] 26)).alloc (.cells #[.slice A d.cells.length c, .slice B d.waits.length e, .bool d.gone] 26)) := bel_new (bel_new (Below.refl _ _) _) _
  have fin := OPost2.mk (b := false) (hA.below bl) bl
  have h120 := hok.2.1
  unfold maxLen at hsz
  clear bl hA
  by_cases hg : d.gone = false
  · by_cases hn : 0 ≤ n ∧ n ≤ 63
    · rw [cellB_yes hn] at hC
      have hno2 : t.size ≤ 200 → ¬ d.waits.length < 120 := fun hs h2 => hno ⟨⟨hg, hn.1, hn.2, hs⟩, h2⟩
      rw [hg] at fin ⊢
      have FIN := Lib.hid fin
      clear hno hok hn h120 hg fin
      by_cases hs : t.size ≤ 200
      · have hs' : ¬ (200 : Int) < (t.size : Int) := by omega
        have hw : (120 : Int) ≤ (d.waits.length : Int) := by have := hno2 hs; omega
        clear hs hno2
        go_enter Try.func35, Try.ntmps35
        go_wp2_with (go_at_call 34; refine (hC _).mono ?_; rintro r w' ⟨rfl, rfl⟩)
        exact bodyPost_ret (v := .tuple #[.agg #[.slice A d.cells.length c, .slice B d.waits.length e, .bool false], .bool false]) (by simp [results, Try.f35, go_sem]) rfl FIN.out
      · have hs' : (200 : Int) < (t.size : Int) := by omega
        clear hs hno2
        go_enter Try.func35, Try.ntmps35
        go_wp2_with (go_at_call 34; refine (hC _).mono ?_; rintro r w' ⟨rfl, rfl⟩)
        exact bodyPost_ret (v := .tuple #[.agg #[.slice A d.cells.length c, .slice B d.waits.length e, .bool false], .bool false]) (by simp [results, Try.f35, go_sem]) rfl FIN.out
    · rw [cellB_no hn] at hC
      rw [hg] at fin ⊢
      have FIN := Lib.hid fin
      clear hno hok hn h120 hg fin
      go_enter Try.func35, Try.ntmps35
      go_wp2_with (go_at_call 34; refine (hC _).mono ?_; rintro r w' ⟨rfl, rfl⟩)
      exact bodyPost_ret (v := .tuple #[.agg #[.slice A d.cells.length c, .slice B d.waits.length e, .bool false], .bool false]) (by simp [results, Try.f35, go_sem]) rfl FIN.out
  · have hg' : d.gone = true := by simpa using hg
    rw [hg'] at fin ⊢
    have FIN := Lib.hid fin
    clear hno hok h120 hg hg' hC fin
    go_enter Try.func35, Try.ntmps35
    go_wp2
    exact bodyPost_ret (v := .tuple #[.agg #[.slice A d.cells.length c, .slice B d.waits.length e, .bool true], .bool false]) (by simp [results, Try.f35, go_sem]) rfl FIN.out

set_option maxRecDepth 100000 in
set_option maxHeartbeats 4000000 in
theorem l3write_yes (base : Nat) (A B : Option Addr) (c e : Nat) (d : Dk) (n : Int) (t : ByteArray) (w : World) (hbase : base ≤ w.heap.size) (hA : DkOwn w base (.agg #[.slice A d.cells.length c, .slice B d.waits.length e, .bool d.gone]) d) (hsz : t.size ≤ maxLen) (hyes : Take d n t ∧ d.waits.length < 120) :
    Calls Try.prog 35 #[.agg #[.slice A d.cells.length c, .slice B d.waits.length e, .bool d.gone], .int .i64 n, .string t] w (OPost2 base ⟨d.cells, d.waits ++ [⟨n, t⟩], d.gone⟩ true w) := by
  obtain ⟨j0, hj, hy0, hy1, hy2⟩ := info_parts Try.info32
  obtain ⟨⟨hg, hn1, hn2, hs⟩, h120⟩ := hyes
  have hC := fun w => s_cell n w
  rw [cellB_yes ⟨hn1, hn2⟩] at hC
  have hs' : ¬ (200 : Int) < (t.size : Int) := by omega
  have hw : ¬ (120 : Int) ≤ (d.waits.length : Int) := by omega
  have K0 := TwoB.new w (.slice A d.cells.length c) (.slice B d.waits.length e) (.bool d.gone)
  have bx := TwoB.bx1 w (.slice A d.cells.length c) (.slice B d.waits.length e) (.bool d.gone)
  have by_ := TwoB.bx2 w (.slice A d.cells.length c) (.slice B d.waits.length e) (.bool d.gone)
  have hl := hA.lies.2
  obtain ⟨tt, htt, h1, h2⟩ := hA.rows
  have s0 : w.heap.size + 1 + 1 ≤ ((w.alloc (.cells #[.slice A d.cells.length c, .slice B d.waits.length e, .bool d.gone] 26)).alloc (.cells #[.slice none 0 0, .slice none 0 0, .bool false] 26)).heap.size := by simp
  have h1 := own_bel h1 K0.one.2.2.2
  have hl := hl.below K0.one.2.2.2
  clear hA
  rw [hg] at K0 bx by_ h1 hl s0 ⊢
  clear hg hs h2
  unfold maxLen at hsz
  go_enter Try.func35, Try.ntmps35
  go_upto_region 3 with (go_at_call 34; refine (hC _).mono ?_; rintro r w' ⟨rfl, rfl⟩)
  obtain ⟨W0, hW0⟩ : ∃ W, W = (w.alloc (.cells #[.slice A d.cells.length c, .slice B d.waits.length e, .bool false] 26)).alloc (.cells #[.slice none 0 0, .slice none 0 0, .bool false] 26) := ⟨_, rfl⟩
  rw [← hW0] at K0 s0 bx by_ h1 hl ⊢
  clear hW0
  obtain ⟨x0, x1, x2, y0, y1, y2, f0, f1, f2, sg, sh, B0⟩ := id K0
  have hm := World.ownsRow_made (e := 32) (size := 2) (base := w.heap.size + 1 + 1) W0 #[] 0 s0 (Nat.zero_le _) rfl
  have hl1 := hl.alloc (.cells #[] 32)
  go_wp2_with (at_builtin; refine wpList_append_lies2 _ rfl _ _ 24 rfl (w.heap.size + 1 + 1) 32 j0 (.agg #[.int .i64 0, .string ⟨#[]⟩]) 2 24 Try.underlying24 hj hy0 hy1 hy2 rfl (by decide) _ _ _ rfl hm B d.waits.length e (wtCells d.waits) rfl (wtCells_len _) hl1 (wtCells_one _) (by unfold maxLen; omega) (by omega) (by simp; omega) ?_; intro v5 w5 o5 g5; refine Hid.out ?_)
  refine Lib.hid ?_
  rw [Nat.zero_add, List.nil_append] at o5
  have g5 : (W0.alloc (.cells #[] 32)).grownBy w5 (some W0.heap.size) := g5
  have s5 := g5.size
  rw [World.size_alloc] at s5
  have K5 := (K0.alloc (.cells #[] 32)).grown g5 (fun b e => by cases e; omega)
  have bx5 : Bx w5 w.heap.size 26 _ _ _ := (g5.block w.heap.size (by simp; omega) (fun e => by injection e with e; omega)).trans (bx.alloc (.cells #[] 32))
  have by5 : Bx w5 (w.heap.size + 1) 26 _ _ _ := (g5.block (w.heap.size + 1) (by simp; omega) (fun e => by injection e with e; omega)).trans (by_.alloc (.cells #[] 32))
  have h15 := (h1.alloc (.cells #[] 32)).kept g5 (.inr (fun e => absurd (h1.lt _ e).2 (Nat.lt_irrefl _)))
  obtain ⟨B5, e5, rfl, _⟩ := own_lies o5
  clear hm hl1 g5 h1 hl x0 x1 x2 y0 y1 y2 f0 f1 f2 sg sh B0 K0 bx by_
  obtain ⟨x0, x1, x2, y0, y1, y2, f0, f1, f2, sg, sh, B0⟩ := id K5
  have h2b := o5.alloc (.cells #[.int .i64 n, .string t] 32)
  have HL := lies_two w5 n t
  go_wp2_with (at_builtin; refine wpList_append_lies2 _ rfl _ _ 24 rfl (w.heap.size + 1 + 1) 32 j0 (.agg #[.int .i64 0, .string ⟨#[]⟩]) 2 24 Try.underlying24 hj hy0 hy1 hy2 rfl (by decide) _ _ _ rfl h2b (some ⟨w5.heap.size, 0, none⟩) 1 1 [.int .i64 n, .string t] rfl rfl HL (by simp [Value.oneCell']) (by unfold maxLen; omega) (by omega) (by simp; omega) ?_; intro v6 w6 o6 g6; refine Hid.out ?_)
  refine Lib.hid ?_
  have g6 : (w5.alloc (.cells #[.int .i64 n, .string t] 32)).grownBy w6 (Value.slice B5 d.waits.length e5).ownBlock := g6
  have KA := K5.alloc (.cells #[.int .i64 n, .string t] 32)
  have K6 := KA.grown g6 (fun b e => by have := (o5.lt b e).1; omega)
  have bx6 : Bx w6 w.heap.size 26 _ _ _ := (g6.block w.heap.size (by simp; omega) (fun e => by have := (o5.lt _ e.symm).1; omega)).trans (bx5.alloc (.cells #[.int .i64 n, .string t] 32))
  have by6 : Bx w6 (w.heap.size + 1) 26 _ _ _ := (g6.block (w.heap.size + 1) (by simp; omega) (fun e => by have := (o5.lt _ e.symm).1; omega)).trans (by5.alloc (.cells #[.int .i64 n, .string t] 32))
  have h16 := (h15.alloc (.cells #[.int .i64 n, .string t] 32)).kept g6 (own_ne h2b (h15.alloc _) (by rcases htt with rfl | rfl <;> decide))
  rw [← wt_snoc] at o6
  clear h2b HL g6 x0 x1 x2 y0 y1 y2 f0 f1 f2 sg sh B0 K5 KA bx5 by5 h15 o5
  obtain ⟨B6, e6, rfl, _⟩ := own_lies o6
  obtain ⟨x0, x1, x2, y0, y1, y2, f0, f1, f2, sg, sh, B0⟩ := id K6
  obtain ⟨_, q0, q1, q2⟩ := bx6.cells
  have q3 : w.heap.size ≠ w.heap.size + 1 := by omega
  go_wp2_with fail
  have ow : DkOwn w6 base (.agg #[.slice A d.cells.length c, .slice B6 (d.waits.length + 1) e6, .bool false]) ⟨d.cells, d.waits ++ [⟨n, t⟩], false⟩ :=
    ⟨tt, _, _, rfl, htt, h16, own_base (by rw [List.length_append]; exact o6) (by omega)⟩
  have ow2 := (ow.set_box bx6 1 (.slice B6 (d.waits.length + 1) e6)).box2 (by6.set (p := ⟨w.heap.size, 1, none⟩) (by simp) (.slice B6 (d.waits.length + 1) e6)) (.slice A d.cells.length c) (.slice B6 (d.waits.length + 1) e6) (.bool false)
  have BB := bel_box (B0.setCell (p := ⟨w.heap.size, 1, none⟩) (Nat.le_refl _) (.slice B6 (d.waits.length + 1) e6)) (show w.heap.size ≤ w.heap.size + 1 by omega) (.slice A d.cells.length c) (.slice B6 (d.waits.length + 1) e6) (.bool false)
  have hll : d.waits.length + 1 = (d.waits ++ [(⟨n, t⟩ : Wt)]).length := by rw [List.length_append]; rfl
  refine bodyPost_ret (v := .tuple #[.agg #[.slice A d.cells.length c, .slice B6 (d.waits.length + 1) e6, .bool false], .bool true]) (by simp [results, Try.f35, go_sem, y0, y1, y2]) rfl ?_
  rw [hll] at ow2 BB ⊢
  exact OPost2.mk (d := ⟨d.cells, d.waits ++ [⟨n, t⟩], false⟩) ow2 BB

theorem l3write (base : Nat) (A B : Option Addr) (c e : Nat) (d : Dk) (n : Int) (t : ByteArray) (w : World) (hbase : base ≤ w.heap.size) (hA : DkOwn w base (.agg #[.slice A d.cells.length c, .slice B d.waits.length e, .bool d.gone]) d) (hok : DkOk d) (hsz : t.size ≤ maxLen) :
    Calls Try.prog 35 #[.agg #[.slice A d.cells.length c, .slice B d.waits.length e, .bool d.gone], .int .i64 n, .string t] w (OPost2 base (writeD d n t).1 (writeD d n t).2 w) := by
  by_cases hy : Take d n t ∧ d.waits.length < 120
  · rw [writeD_yes hok ⟨hy.1.1, hy.1.2.1, hy.1.2.2.1, hy.1.2.2.2, hy.2⟩]
    exact l3write_yes base A B c e d n t w hbase hA hsz hy
  · rw [writeD_no hok (fun h => hy ⟨⟨h.1, h.2.1, h.2.2.1, h.2.2.2.1⟩, h.2.2.2.2⟩)]
    exact l3write_no base A B c e d n t w hA hok hsz hy

set_option maxRecDepth 100000 in
set_option maxHeartbeats 4000000 in
theorem spec_write (A B : Option Addr) (c e : Nat) (d : Dk) (n : Int) (t : ByteArray) (w : World) (hd : Bulk d) (hA : DkAt w A B d) (hsz : t.size ≤ maxLen) :
    Calls Try.prog 17 #[.agg #[.slice A d.cells.length c, .slice B d.waits.length e, .bool d.gone], .int .i64 n, .string t] w (DPost2 (writeD d n t).1 (writeD d n t).2 w) := by
  have K0 := TwoB.new w (.slice A d.cells.length c) (.slice B d.waits.length e) (.bool d.gone)
  have hle : w.heap.size ≤ w.heap.size + 1 := by omega
  by_cases hok : DkOk d
  · have hO := okPost_yes hok (spec_ok A B c e d _ hd (hA.below K0.one.2.2.2))
    have hC := fun W hW => spec_copy A B c e d W hd (hA.below (w' := W) hW)
    have hL := fun base A B c e W h1 h2 => l3write base A B c e d n t W h1 h2 hok hsz
    obtain ⟨D, hD⟩ : ∃ D, D = (writeD d n t).1 := ⟨_, rfl⟩
    obtain ⟨b, hb⟩ : ∃ b, b = (writeD d n t).2 := ⟨_, rfl⟩
    rw [← hD, ← hb] at hL ⊢
    clear hD hb hok hA hd
    go_enter Try.func17, Try.ntmps17
    go_wp2_with (go_at_call 27; refine hO.mono ?_; rintro r w2 ⟨rfl, hb2⟩; refine Hid.out ?_)
    refine Lib.hid ?_
    have K2 := K0.next hb2
    obtain ⟨x0, x1, x2, y0, y1, y2, f0, f1, f2, _⟩ := id K2
    clear hO K0 hb2
    go_wp2_with (go_at_call 29; refine (hC _ K2.one.2.2.2).mono ?_; rintro r w3 ⟨A3, c3, B3, e3, rfl, o3, hb3⟩; refine Hid.out ?_)
    refine Lib.hid ?_
    have K3 := K2.next hb3
    have s2 := K2.2.2.2.2.2.2.2.2.2.2.1
    have L := hL w2.heap.size A3 B3 c3 e3 w3 hb3.size o3
    clear x0 x1 x2 y0 y1 y2 f0 f1 f2 hC hb3 K2 hL o3
    go_wp2_with (go_at_call 35; refine L.mono ?_; rintro r w5 ⟨A5, c5, B5, e5, rfl, o5, hb5⟩; have K5 := K3.next hb5; obtain ⟨x0, x1, x2, y0, y1, y2, f0, f1, f2, _⟩ := id K5)
    exact bodyPost_ret (v := .tuple #[.agg #[.slice A5 D.cells.length c5, .slice B5 D.waits.length e5, .bool D.gone], .bool b]) (by simp [results, Try.f17, go_sem, y0, y1, y2]) rfl (DPost2.mk ((o5.box (R := w.heap.size + 1) (by omega) _ _ _).base (by omega)) (bel_box K5.one.2.2.2 hle _ _ _))
  · have hO := okPost_no hok (spec_ok A B c e d _ hd (hA.below K0.one.2.2.2))
    rw [writeD_bad hok]
    clear hok hA hd
    go_enter Try.func17, Try.ntmps17
    go_wp2_with (go_at_call 27; refine hO.mono ?_; rintro r w2 ⟨rfl, hb2⟩; have K2 := K0.next hb2; obtain ⟨x0, x1, x2, y0, y1, y2, f0, f1, f2, _⟩ := id K2)
    exact bodyPost_ret (v := .tuple #[.agg #[.slice none 0 0, .slice none 0 0, .bool false], .bool false]) (by simp [results, Try.f17, go_sem, y0, y1, y2]) rfl (DPost2.mk (d := dk0) (dk0_own _ _) (bel_box K2.one.2.2.2 hle _ _ _))
end Go.Proofs.Ytimpdjlgfjehcaa
