/-
  DiskCrash, the program's.
-/
import Derived.Test.YtimpdjlgfjehcaaStI
import Derived.Test.YtimpdjlgfjehcaaNew
import Derived.Deep.WholeRow
namespace Go.Proofs.Ytimpdjlgfjehcaa
open Go.RowKit

/-- A whole array goes into the block that was made last. -/
theorem wpList_store_new {P : Program} {ops : Array Oper} {rest : List Oper} {op : Oper} {a : Act} {Q : Exit → Act → World → Prop} (hgd : op.guard = none) (ty : TypeId) (x y : Operand) (ho : op.op = .store ty x y) (w : World) (c cells : Array Value)
    (hx : a.eval x = .pointer (some ⟨w.heap.size, 0, none⟩)) (hy : a.eval y = .agg cells) (hi : (P.info? ty).map (·.size) = some cells.size) (hs : c.size = cells.size) (h1 : cells.all (·.oneCell') = true)
    (h : wpList P ops Q rest (a.put op.dst undef) (w.alloc (.cells cells ty))) : wpList P ops Q (op :: rest) a (w.alloc (.cells c ty)) := by
  refine wpList_plain hgd fun K hK => ?_
  have hr := run_storeAt_new (P := P) w ty c cells hi hs h1
  unfold Oper.wp execOp
  simp only [ho, hx, hy, Sem.run_bind, Sem.run_pure, Result.andThen_ok, hr]
  exact hK _ _ h

theorem own_range {w : World} {base g c n : Nat} {t : TypeId} {xs : List Value} (h : w.ownsRow base t 1 (.slice (some ⟨g, 0, none⟩) n c) n xs) : w.rangeAt g 0 xs := fun j v hj => by
  have := h.cells (g := g) rfl j v hj
  rwa [Addr.add_mid] at this
/-- Whether the disk is gone, and its new cells. -/
def CB (h g : Nat) (gone : Bool) (xs : List Value) (W : World) : Prop := W.cell? ⟨h, 2, none⟩ = some (.bool gone) ∧ W.rangeAt g 0 xs ∧ h < W.heap.size ∧ g < W.heap.size
theorem CB.next {h g : Nat} {gone : Bool} {xs : List Value} {W W' : World} (k : CB h g gone xs W) (hb : Below W.heap.size W W') : CB h g gone xs W' := by
  obtain ⟨a, b, d, e⟩ := k
  exact ⟨(hb.cell (p := ⟨h, 2, none⟩) d).trans a, fun j v hj => (hb.cell (p := ⟨g, 0 + j, none⟩) e).trans (b j v hj), Nat.lt_of_lt_of_le d hb.size, Nat.lt_of_lt_of_le e hb.size⟩
theorem CB.drew {h g : Nat} {gone : Bool} {xs : List Value} {W : World} (k : CB h g gone xs W) : CB h g gone xs W.drew := k
theorem CB.set {h g i r : Nat} {gone : Bool} {xs : List Value} {W : World} (k : CB h g gone xs W) (n1 : r ≠ h) (n2 : r ≠ g) (u : Value) : CB h g gone xs (W.setCell ⟨r, i, none⟩ u) := by
  obtain ⟨a, b, d, e⟩ := k
  have q := fun (k : Nat) (j : Nat) (hk : r ≠ k) => World.cell?_of_block (a := ⟨k, j, none⟩) (Below.heap_setCell W ⟨r, i, none⟩ u k hk.symm)
  exact ⟨(q h 2 n1).trans a, fun j v hj => (q g (0 + j) n2).trans (b j v hj), by simpa [World.setCell] using d, by simpa [World.setCell] using e⟩
theorem CB.box {h g r : Nat} {gone : Bool} {xs : List Value} {W : World} (k : CB h g gone xs W) (n1 : r ≠ h) (n2 : r ≠ g) (x y z : Value) : CB h g gone xs (((W.setCell ⟨r, 0, none⟩ x).setCell ⟨r, 1, none⟩ y).setCell ⟨r, 2, none⟩ z) :=
  ((k.set n1 n2 x).set n1 n2 y).set n1 n2 z

set_option maxRecDepth 100000 in
set_option maxHeartbeats 4000000 in
theorem impl_crash (A B : Option Addr) (c e : Nat) (d : Dk) (mask tear : Int) (w : World) (hd : Bulk d) (hA : DkAt w A B d) (h1 : mask ≤ 9223372036854775807) :
    Calls Try.prog 7 #[.agg #[.slice A d.cells.length c, .slice B d.waits.length e, .bool d.gone], .int .i64 mask, .int .i64 tear] w (DPost (crashD d mask tear) w) := by
  have K0 := TwoB.new w (.slice A d.cells.length c) (.slice B d.waits.length e) (.bool d.gone)
  have hle : w.heap.size ≤ w.heap.size + 1 := by omega
  by_cases hok : DkOk d
  · have hO := okPost_yes hok (impl_ok A B c e d _ hd (hA.below K0.one.2.2.2))
    by_cases h0 : 0 ≤ mask
    · have h0' : ¬ mask < 0 := by omega
      rw [crashD_yes hok h0]
      have h64 := hok.1
      have k1 := fun w => arr_at A d.cells.length c (by omega) w
      have hR := fun W hW => (hA.below (w' := W) hW).1.range (by show 0 < (strCells d.cells).length; rw [strCells_len]; omega)
      have i60 := info60 (strCells d.cells).length (by rw [strCells_len, h64])
      have hTT := fun W hW => (hA.below (w' := W) hW).2
      have hS := fun base g c B e W q1 q2 q3 => settle base g c B e d.cells d.waits mask tear W q1 q2 h64 hok.2.1 hok.2.2.2.1 hok.2.2.2.2 h0 h1 q3
      have hLn := fun k => st_len d.waits mask tear d.cells k
      have HL := Lib.hid hLn
      have HS := Lib.hid hS
      have H64 := Lib.hid h64
      have HR := Lib.hid hR
      have HT := Lib.hid hTT
      have II := Lib.hid i60
      have i61 : (Try.prog.info? 51).map (·.size) = some (strCells d.cells).toArray.size := by rw [List.size_toArray]; exact i60
      have hsz : (strCells d.cells).toArray.size = 64 := by rw [List.size_toArray, strCells_len, h64]
      have h1c := all_oneCell_toArray (strCells_one d.cells)
      have ON := fun (w : World) => own_new (w := w) (t := 51) h64
      have II2 := Lib.hid i61
      have SZ := Lib.hid hsz
      have H1C := Lib.hid h1c
      have HON := Lib.hid ON
      clear hok hd hA h0 h1 hLn hS h64 hR hTT i60 i61 hsz h1c ON
      go_enter Try.func7, Try.ntmps7
      go_wp2_with (go_at_call 24; refine hO.mono ?_; rintro r w2 ⟨rfl, hb2⟩; refine Hid.out ?_)
      refine Lib.hid ?_
      have K2 := K0.next hb2
      obtain ⟨x0, x1, x2, y0, y1, y2, f0, f1, f2, _⟩ := id K2
      obtain ⟨b, off, rfl, hbl, hr2⟩ := HR.out _ K2.one.2.2.2
      have RR := Lib.hid hr2
      clear hO K0 hb2 hr2
      go_wp2_with (first
        | refine wpList_load_guard (by first | rfl | simp [Region.wanted, yielded]) 51 _ rfl b off rfl (strCells d.cells) _ RR.out Try.underlying51 rfl II.out ?_
        | (refine wpList_store_new rfl 51 _ _ rfl w2 _ (strCells d.cells).toArray rfl rfl II2.out (by rw [SZ.out]; rfl) H1C.out ?_; refine Hid.out ?_))
      refine Lib.hid ?_
      have ow3 := HON.out w2
      have K3 := K2.alloc (.cells (strCells d.cells).toArray 51)
      have s3 : w2.heap.size < (w2.alloc (.cells (strCells d.cells).toArray 51)).heap.size := by simp
      have s2 := K2.2.2.2.2.2.2.2.2.2.2.1
      obtain ⟨W3, hW3⟩ : ∃ W, W = w2.alloc (.cells (strCells d.cells).toArray 51) := ⟨_, rfl⟩
      rw [← hW3] at ow3 K3 s3 ⊢
      have b23 : Below w2.heap.size w2 W3 := by rw [hW3]; exact bel_new (Below.refl _ _) _
      have S := HS.out w2.heap.size w2.heap.size 64 B e W3 (by omega) ow3 (fun W hW => HT.out W (K3.one.2.2.2.trans (hW.mono (by omega))))
      clear hW3 x0 x1 x2 y0 y1 y2 f0 f1 f2
      obtain ⟨x0, x1, x2, y0, y1, y2, f0, f1, f2, _⟩ := id K3
      have hl64 := HL.out d.waits.length
      rw [H64.out] at hl64
      obtain ⟨cs', hcs'⟩ : ∃ cs', cs' = st d.waits mask tear d.cells d.waits.length := ⟨_, rfl⟩
      rw [← hcs'] at S hl64 ⊢
      have HCS := Lib.hid hcs'
      clear hcs' HL HS HT HR HON II2 SZ H1C RR II ow3
      go_upto_region 5 with (go_at_call 25; refine S.mono ?_; rintro r w5 ⟨⟨v5, rfl⟩, ⟨o5, hb5⟩⟩; refine Hid.out ?_)
      refine Lib.hid ?_
      have K5 := K2.next (b23.trans hb5)
      have cb := (show CB w.heap.size w2.heap.size d.gone (strCells cs') w5 from ⟨K5.2.2.1, own_range o5, K5.2.2.2.2.2.2.2.2.2.1, (o5.lt _ rfl).2⟩)
      have cbd := cb.drew
      have i60' := info60 (strCells cs').length (by rw [strCells_len, hl64])
      have u60 := Try.underlying51
      have hL := fun w => list_any cs' w hl64
      have n1 : w.heap.size + 1 ≠ w.heap.size := by omega
      have n2 : w.heap.size + 1 ≠ w2.heap.size := by omega
      have s5 := (o5.lt _ rfl).2
      clear x0 x1 x2 y0 y1 y2 f0 f1 f2 S b23 hb5 K3 o5
      go_upto_region 5 with fail
      go_region_held3 (fun W => W.cell? ⟨w.heap.size, 2, none⟩ = some (.bool d.gone) ∧ W.rangeAt w2.heap.size 0 (strCells cs') ∧ w.heap.size < W.heap.size ∧ w2.heap.size < W.heap.size)
        ((show CB w.heap.size w2.heap.size d.gone (strCells cs') _; with_reducible (first | exact cb | exact cbd | exact cb7 | exact cb7.box n1 n2 _ _ _)))
        (first | (go_at_call 26; refine (hL _).mono ?_; rintro r w7 ⟨g7, rfl, o7, hb7⟩; have cb7 := cbd.next hb7; have K7 := K5.drew.next hb7; obtain ⟨x0, x1, x2, y0, y1, y2, f0, f1, f2, _⟩ := id K7))
      have s6 : w.heap.size + 1 + 1 ≤ w5.drew.heap.size := K5.2.2.2.2.2.2.2.2.2.2.1
      have o8 := own_base (base' := w.heap.size + 1 + 1) o7 s6
      have B7 := K7.one.2.2.2
      clear K7 K5 cb cbd cb7 o7 hb7 hL i60' u60
      go_wp2_with fail
      have ow : DkOwn w7 (w.heap.size + 1 + 1) (.agg #[.slice (some ⟨g7, 0, none⟩) 64 64, .slice none 0 0, .bool d.gone]) ⟨cs', [], d.gone⟩ :=
        ⟨51, _, _, rfl, .inr rfl, by rw [hl64]; exact o8, ⟨rfl, .inl ⟨rfl, rfl⟩⟩⟩
      refine bodyPost_ret (v := .agg #[.slice (some ⟨g7, 0, none⟩) 64 64, .slice none 0 0, .bool d.gone]) (by simp [results, Try.f7, go_sem, y0, y1, y2]) rfl ?_
      rw [← HCS.out]
      refine ⟨some ⟨g7, 0, none⟩, 64, none, 0, by simp only [hl64, List.length_nil], ?_, bel_box B7 hle _ _ _⟩
      simp only [hl64, List.length_nil]
      exact (ow.box (R := w.heap.size + 1) (by omega) _ _ _).base (by omega)
    · have h0' : mask < 0 := by omega
      rw [crashD_no (fun x => h0 x.2)]
      clear hok hA hd h0
      go_enter Try.func7, Try.ntmps7
      go_wp2_with (go_at_call 24; refine hO.mono ?_; rintro r w2 ⟨rfl, hb2⟩; have K2 := K0.next hb2; obtain ⟨x0, x1, x2, y0, y1, y2, f0, f1, f2, _⟩ := id K2)
      exact bodyPost_ret (v := .agg #[.slice none 0 0, .slice none 0 0, .bool false]) (by simp [results, Try.f7, go_sem, y0, y1, y2]) rfl (DPost.mk (d := dk0) (dk0_own _ _) (bel_box K2.one.2.2.2 hle _ _ _))
  · have hO := okPost_no hok (impl_ok A B c e d _ hd (hA.below K0.one.2.2.2))
    rw [crashD_no (fun x => hok x.1)]
    clear hok hA hd
    go_enter Try.func7, Try.ntmps7
    go_wp2_with (go_at_call 24; refine hO.mono ?_; rintro r w2 ⟨rfl, hb2⟩; have K2 := K0.next hb2; obtain ⟨x0, x1, x2, y0, y1, y2, f0, f1, f2, _⟩ := id K2)
    exact bodyPost_ret (v := .agg #[.slice none 0 0, .slice none 0 0, .bool false]) (by simp [results, Try.f7, go_sem, y0, y1, y2]) rfl (DPost.mk (d := dk0) (dk0_own _ _) (bel_box K2.one.2.2.2 hle _ _ _))
end Go.Proofs.Ytimpdjlgfjehcaa
