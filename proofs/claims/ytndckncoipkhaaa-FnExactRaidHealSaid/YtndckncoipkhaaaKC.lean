/-
  New disks, and disks that are gone.
  A power failure, as the model reckons it.
  A power failure: the model's loop.
  A flush: the model's loop.
  settle: the program's loop behind a power failure.
  DiskCrash, the program's.
  DiskFlush, the program's.
-/
import Derived.Test.YtndckncoipkhaaaMB
import Derived.Test.YtndckncoipkhaaaKW
import Derived.Deep.RegionHeldLaw
import Derived.Deep.RegionHeld3
import Derived.WalkMore
import Derived.ScopeJumps
import Derived.Deep.WholeRow

namespace Go.Proofs.Ytndckncoipkhaaa
open Go.RowKit

def SlPost (t : TypeId) (cs : List ByteArray) (w : World) (r : Ending) (w' : World) : Prop :=
  ∃ g, r = .returned (.slice (some ⟨g, 0, none⟩) 64 64) ∧ w'.ownsRow w.heap.size t 1 (.slice (some ⟨g, 0, none⟩) 64 64) 64 (strCells cs) ∧ Below w.heap.size w w'
theorem own_new {w : World} {t : TypeId} {cs : List ByteArray} (h : cs.length = 64) : (w.alloc (.cells (strCells cs).toArray t)).ownsRow w.heap.size t 1 (.slice (some ⟨w.heap.size, 0, none⟩) 64 64) 64 (strCells cs) := by
  refine ⟨by rw [strCells_len, h], .inr ⟨w.heap.size, 64, (strCells cs).toArray, rfl, Nat.le_refl _, heap_alloc_new w _, Nat.le_refl _, by unfold maxLen; omega, by simp [strCells, h], ?_⟩⟩
  rw [List.take_of_length_le (by simp [strCells, h])]
set_option maxRecDepth 100000 in
set_option maxHeartbeats 2000000 in
theorem list_any (cs : List ByteArray) (w : World) (h : cs.length = 64) :
    Calls Try.prog 77 #[.agg (strCells cs).toArray] w (SlPost 84 cs w) := by
  have ho := own_new (w := w) (t := 84) h
  obtain ⟨ca, hca⟩ : ∃ ca, ca = (strCells cs).toArray := ⟨_, rfl⟩
  rw [← hca] at ho ⊢
  clear hca
  go_enter Try.func77, Try.ntmps77
  go_wp2
  go_ret
  exact ⟨_, rfl, ho, bel_new (Below.refl _ _) _⟩

set_option maxRecDepth 100000 in
set_option maxHeartbeats 2000000 in
theorem impl_new (w : World) : Calls Try.prog 39 #[] w (DPost newD w) := by
  have hL := fun w => list_any blank w (by simp [blank])
  rw [blank_lit] at hL
  have hle := Nat.le_refl w.heap.size
  go_enter Try.func39, Try.ntmps39
  go_wp2_with (go_at_call 77; refine (hL _).mono ?_; rintro r w2 ⟨g, rfl, o2, hb2⟩; obtain ⟨⟨y0, y1, y2⟩, f0, f1, f2⟩ := ((Bx.new w 60 _ _ _).below hb2).cells)
  have p2 := own_base (base' := w.heap.size + 1) o2 (by simp)
  have ow : DkOwn w2 (w.heap.size + 1) (.agg #[.slice (some ⟨g, 0, none⟩) 64 64, .slice none 0 0, .bool false]) newD := ⟨84, _, _, rfl, .inr rfl, p2, ⟨rfl, .inl ⟨rfl, rfl⟩⟩⟩
  have B2 := bel_then (bel_new (Below.refl w.heap.size w) _) hb2
  exact bodyPost_ret (v := .agg #[.slice (some ⟨g, 0, none⟩) 64 64, .slice none 0 0, .bool false]) (by simp [results, Try.f39, go_sem, y0, y1, y2]) rfl ⟨some ⟨g, 0, none⟩, 64, none, 0, rfl, (ow.box (R := w.heap.size) (by omega) _ _ _).base (by omega), bel_box B2 hle _ _ _⟩

set_option maxRecDepth 100000 in
set_option maxHeartbeats 2000000 in
theorem impl_lose (w : World) : Calls Try.prog 76 #[] w (DPost loseD w) := by
  have hL := fun w => list_any blank w (by simp [blank])
  rw [blank_lit] at hL
  have hle := Nat.le_refl w.heap.size
  go_enter Try.func76, Try.ntmps76
  go_wp2_with (go_at_call 77; refine (hL _).mono ?_; rintro r w2 ⟨g, rfl, o2, hb2⟩; obtain ⟨⟨y0, y1, y2⟩, f0, f1, f2⟩ := ((Bx.new w 60 _ _ _).below hb2).cells)
  have p2 := own_base (base' := w.heap.size + 1) o2 (by simp)
  have ow : DkOwn w2 (w.heap.size + 1) (.agg #[.slice (some ⟨g, 0, none⟩) 64 64, .slice none 0 0, .bool true]) loseD := ⟨84, _, _, rfl, .inr rfl, p2, ⟨rfl, .inl ⟨rfl, rfl⟩⟩⟩
  have B2 := bel_then (bel_new (Below.refl w.heap.size w) _) hb2
  exact bodyPost_ret (v := .agg #[.slice (some ⟨g, 0, none⟩) 64 64, .slice none 0 0, .bool true]) (by simp [results, Try.f76, go_sem, y0, y1, y2]) rfl ⟨some ⟨g, 0, none⟩, 64, none, 0, rfl, (ow.box (R := w.heap.size) (by omega) _ _ _).base (by omega), bel_box B2 hle _ _ _⟩

theorem blank_strs : strCells newD.cells = List.replicate 64 (Value.string ⟨#[]⟩) := by
  show List.map Value.string (List.replicate 64 none8) = _
  rw [List.map_replicate]
  rfl
set_option maxRecDepth 100000 in
set_option maxHeartbeats 2000000 in
theorem spec_new (w : World) : Calls Try.prog 36 #[] w (DPost newD w) := by
  obtain ⟨i0, hi, hz0, hz1, hz2⟩ := info_parts Try.info9
  have hle := Nat.le_refl w.heap.size
  have b0 := Bx.new w 60 (.slice none 0 0) (.slice none 0 0) (.bool false)
  go_enter Try.func36, Try.ntmps36
  go_wp2_with (refine wpList_make_full _ rfl _ _ 57 rfl (w.heap.size + 1) 9 i0 (.string ⟨#[]⟩) 1 Try.underlying57 hi hz0 hz1 _ _ _ _ 64 rfl rfl rfl rfl (by rw [hz2]; omega) (by unfold maxLen; omega) (by simp) ?_; intro w1 hown hgrow; rw [made_strs] at hown; have b1 : Bx w1 w.heap.size 60 (.slice none 0 0) (.slice none 0 0) (.bool false) := (hgrow.block w.heap.size (by simp) (by simp)).trans b0; have b2 := b1.alloc (.cells #[] 94); obtain ⟨⟨y0, y1, y2⟩, f0, f1, f2⟩ := b2.cells)
  have p2 := own_base (base' := w.heap.size + 1) (hown.alloc (.cells #[] 94)) (Nat.le_refl _)
  rw [World.size_alloc, ← blank_strs] at p2
  have p3 := World.ownsRow_made (e := 94) (size := 2) (base := w.heap.size + 1) w1 #[] 0 (by have := hgrow.size; simpa using this) (Nat.zero_le _) rfl
  have ow : DkOwn (w1.alloc (.cells #[] 94)) (w.heap.size + 1) (.agg #[.slice (some ⟨w.heap.size + 1, 0, none⟩) 64 64, .slice (some ⟨w1.heap.size, 0, none⟩) 0 0, .bool false]) newD := ⟨9, _, _, rfl, .inl rfl, p2, p3⟩
  have B2 : Below w.heap.size w (w1.alloc (.cells #[] 94)) := bel_new ((bel_new (Below.refl w.heap.size w) _).grown hgrow (by simp) (fun k e => by cases e)) _
  exact bodyPost_ret (v := .agg #[.slice (some ⟨w.heap.size + 1, 0, none⟩) 64 64, .slice (some ⟨w1.heap.size, 0, none⟩) 0 0, .bool false]) (by simp [results, Try.f36, go_sem, y0, y1, y2]) rfl ⟨some ⟨w.heap.size + 1, 0, none⟩, 64, some ⟨w1.heap.size, 0, none⟩, 0, rfl, (ow.box (R := w.heap.size) (by omega) _ _ _).base (by omega), bel_box B2 hle _ _ _⟩

theorem own_gone {w : World} {base : Nat} {A B : Option Addr} {c e : Nat} (h : DkOwn w base (.agg #[.slice A newD.cells.length c, .slice B newD.waits.length e, .bool newD.gone]) newD) : DkOwn w base (.agg #[.slice A loseD.cells.length c, .slice B loseD.waits.length e, .bool true]) loseD := by
  obtain ⟨t, u1, u2, hv, ht, h1, h2⟩ := h
  injection hv with hv
  injection hv with hv
  injection hv with e1 hv
  injection hv with e2 hv
  subst e1; subst e2
  exact ⟨t, _, _, rfl, ht, h1, h2⟩

set_option maxRecDepth 100000 in
set_option maxHeartbeats 2000000 in
theorem spec_lose (w : World) : Calls Try.prog 73 #[] w (DPost loseD w) := by
  have hN := fun w => spec_new w
  have hle := Nat.le_refl w.heap.size
  obtain ⟨n, hn⟩ : ∃ n, n = newD.cells.length := ⟨_, rfl⟩
  obtain ⟨m, hm⟩ : ∃ n, n = newD.waits.length := ⟨_, rfl⟩
  go_enter Try.func73, Try.ntmps73
  go_wp2_with (go_at_call 36; refine (hN _).mono ?_; rintro r w2 ⟨A, c, B, e, rfl, o2, hb2⟩; have ow := own_gone o2; obtain ⟨⟨y0, y1, y2⟩, f0, f1, f2⟩ := ((Bx.new w 60 (.slice none 0 0) (.slice none 0 0) (.bool false)).below hb2).cells; have s2 : w.heap.size < w2.heap.size := (by have := hb2.size; simp at this; omega); rw [show newD.cells.length = loseD.cells.length from rfl, show newD.waits.length = loseD.waits.length from rfl])
  have p2 := ow.base (base' := w.heap.size + 1) (by simp)
  have B2 := bel_then (bel_new (Below.refl w.heap.size w) _) hb2
  have q2 := (p2.box (R := w.heap.size) (by omega) (.slice A loseD.cells.length c) (.slice B loseD.waits.length e) (.bool true)).below ((Below.refl _ _).alloc (Nat.le_refl _) (.cells #[.slice A loseD.cells.length c, .slice B loseD.waits.length e, .bool true] 60))
  exact bodyPost_ret (v := .agg #[.slice A loseD.cells.length c, .slice B loseD.waits.length e, .bool true]) (by simp [results, Try.f73, go_sem, y0, y1, y2, s2, size_set]) rfl ⟨_, _, _, _, rfl, q2.base (by omega), bel_new (bel_box B2 hle _ _ _) _⟩
end Go.Proofs.Ytndckncoipkhaaa

namespace Go.Proofs.Ytndckncoipkhaaa
open Go.RowKit

theorem own_ne_box {w : World} {base : Nat} {t : TypeId} {sz n : Nat} {v : Value} {xs : List Value} {g : Nat} {tb : TypeId} {x y z : Value} (h : w.ownsRow base t sz v n xs) (b : Bx w g tb x y z) (ht : t ≠ tb) : v.ownBlock ≠ some g := by
  rcases h.2 with ⟨rfl, _⟩ | ⟨g', cap, cur, rfl, hb, hgg, rest⟩
  · simp [Value.ownBlock]
  · intro e
    simp only [Value.ownBlock, Option.some.injEq] at e
    subst e
    have b' : w.heap[g']? = some (.cells #[x, y, z] tb (0, 0)) := b
    rw [hgg] at b'
    injection b' with b'
    injection b' with _ hh
    exact ht hh
theorem strCells_set (cs : List ByteArray) (i : Nat) (s : ByteArray) : (strCells cs).set i (.string s) = strCells (cs.set i s) := by
  unfold strCells
  rw [List.map_set]
/-- A text is stored in a row of the call's own. -/
theorem own_store {w : World} {base g c n : Nat} {t : TypeId} {cs : List ByteArray} (h : w.ownsRow base t 1 (.slice (some ⟨g, 0, none⟩) n c) n (strCells cs)) (i : Nat) (s : ByteArray) :
    (w.setCell ⟨g, i, none⟩ (.string s)).ownsRow base t 1 (.slice (some ⟨g, 0, none⟩) n c) n (strCells (cs.set i s)) := by
  have := (h.stored i (.string s)).1
  rw [strCells_set] at this
  exact this
/-- What the crash's loop keeps. -/
structure CrK (base : Nat) (t : TypeId) (g c : Nat) (B : Option Addr) (e : Nat) (ws : List Wt) (gone : Bool) (w W : World) (cs : List ByteArray) : Prop where
  b3 : Bx W w.heap.size 60 (.slice (some ⟨g, 0, none⟩) 64 c) (.slice B ws.length e) (.bool gone)
  b6 : Bx W (w.heap.size + 1) 60 (.slice none 0 0) (.slice none 0 0) (.bool false)
  row : W.ownsRow base t 1 (.slice (some ⟨g, 0, none⟩) 64 c) 64 (strCells cs)
  wts : W.ownsRow base 94 2 (.slice B ws.length e) ws.length (wtCells ws)
  bel : w.grownBy W (some g)
theorem gset {w W : World} {r : Option Nat} {p : Addr} (h : w.grownBy W r) (hg : w.heap.size ≤ p.block) (v : Value) : w.grownBy (W.setCell p v) r :=
  ⟨h.os, h.tape, h.output, by simpa [World.setCell] using h.size, fun i hi hne => (Below.heap_setCell W p v i (by intro e; omega)).trans (h.block i hi hne)⟩
theorem galloc {w W : World} {r : Option Nat} (h : w.grownBy W r) (o : Obj) : w.grownBy (W.alloc o) r := grown_trans h (below_grown (bel_new (Below.refl _ _) o) r)
theorem gdrew {w W : World} {r : Option Nat} (h : w.grownBy W r) : w.grownBy W.drew r := ⟨h.os, h.tape, h.output, h.size, h.block⟩
theorem CrK.below {base : Nat} {t : TypeId} {g c : Nat} {B : Option Addr} {e : Nat} {ws : List Wt} {gone : Bool} {w W W' : World} {cs : List ByteArray} (h : CrK base t g c B e ws gone w W cs) (hb : Below W.heap.size W W') (_hs : base ≤ w.heap.size) : CrK base t g c B e ws gone w W' cs :=
  ⟨h.b3.below hb, h.b6.below hb, own_bel h.row hb, own_bel h.wts hb, grown_trans h.bel (below_grown hb _)⟩
theorem CrK.store {base : Nat} {t : TypeId} {g c : Nat} {B : Option Addr} {e : Nat} {ws : List Wt} {gone : Bool} {w W : World} {cs : List ByteArray} (h : CrK base t g c B e ws gone w W cs) (ht : t = 9 ∨ t = 84) (i : Nat) (s : ByteArray) : CrK base t g c B e ws gone w (W.setCell ⟨g, i, none⟩ (.string s)) (cs.set i s) := by
  have n3 := own_ne_box h.row h.b3 (by rcases ht with rfl | rfl <;> decide)
  have n6 := own_ne_box h.row h.b6 (by rcases ht with rfl | rfl <;> decide)
  have nw := own_ne h.row h.wts (by rcases ht with rfl | rfl <;> decide)
  have hg : g ≠ w.heap.size := fun e => n3 (by rw [e]; rfl)
  have hg2 : g ≠ w.heap.size + 1 := fun e => n6 (by rw [e]; rfl)
  exact ⟨h.b3.set (p := ⟨g, i, none⟩) hg.symm _, h.b6.set (p := ⟨g, i, none⟩) hg2.symm _, own_store h.row i s,
    h.wts.kept (row := some g) ⟨rfl, rfl, rfl, by simp [World.setCell], fun k _ hk => Below.heap_setCell _ _ _ k (fun e => hk (by rw [e]))⟩ nw,
    grown_trans h.bel ⟨rfl, rfl, rfl, by simp [World.setCell], fun k _ hk => Below.heap_setCell _ _ _ k (fun e => hk (by rw [e]))⟩⟩

theorem stp_bit {mask tear : Int} {i : Nat} {x : Wt} {cs : List ByteArray} (h : bitM mask i = true) : stp mask tear i x cs = cs.set x.num.toNat x.text := by
  unfold stp; rw [if_pos h]
theorem stp_tear {mask tear : Int} {i : Nat} {x : Wt} {cs : List ByteArray} (h : bitM mask i = false) (ht : (i : Int) = tear) : stp mask tear i x cs = cs.set x.num.toNat (torn (cs.getD x.num.toNat none8) x.text) := by
  unfold stp; rw [if_neg (by rw [h]; decide), if_pos ht]
theorem stp_none {mask tear : Int} {i : Nat} {x : Wt} {cs : List ByteArray} (h : bitM mask i = false) (ht : ¬ (i : Int) = tear) : stp mask tear i x cs = cs := by
  unfold stp; rw [if_neg (by rw [h]; decide), if_neg ht]

def CPost (base : Nat) (D : Dk) (w : World) (r : Ending) (w' : World) : Prop :=
  ∃ A c B e, r = .returned (.agg #[.slice A D.cells.length c, .slice B D.waits.length e, .bool D.gone]) ∧ DkOwn w' base (.agg #[.slice A D.cells.length c, .slice B D.waits.length e, .bool D.gone]) D ∧ Below base w w'

/-- The numbers of a bit. -/
theorem bit_nums (mask : Int) (i : Nat) (h0 : 0 ≤ mask) (h1 : mask ≤ 9223372036854775807) : ∃ (k : Nat) (q : Int), k < 60 ∧ 0 ≤ q ∧ q ≤ 9223372036854775807 ∧ bitM mask i = decide (q % 2 = 1) ∧ (i : Int).tmod 60 = (k : Int) ∧ (i : Int) % 60 = (k : Int) ∧ mask / 2 ^ k = q ∧ q.tmod 2 = q % 2 := by
  refine ⟨i % 60, mask / 2 ^ (i % 60), Nat.mod_lt _ (by decide), ?_, ?_, rfl, ?_, rfl, rfl, ?_⟩
  · exact Int.ediv_nonneg h0 (Int.le_of_lt (Int.pow_pos (by decide)))
  · exact Int.le_trans (Int.ediv_le_self _ h0) h1
  · rw [Int.tmod_eq_emod_of_nonneg (by omega)]; rfl
  · exact Int.tmod_eq_emod_of_nonneg (Int.ediv_nonneg h0 (Int.le_of_lt (Int.pow_pos (by decide))))
end Go.Proofs.Ytndckncoipkhaaa

namespace Go.Proofs.Ytndckncoipkhaaa
open Go.RowKit

/-- A cell of the disk's box, and the box of a waiting write. -/
def HB (h3 h8 g c : Nat) (n : Nat) (x : ByteArray) (W : World) : Prop :=
  W.cell? ⟨h3, 0, none⟩ = some (.slice (some ⟨g, 0, none⟩) 64 c) ∧ W.cell? ⟨h8, 0, none⟩ = some (.int .i64 n) ∧ W.cell? ⟨h8, 1, none⟩ = some (.string x) ∧ h3 < W.heap.size ∧ h8 < W.heap.size
theorem HB.next {h3 h8 g c n : Nat} {x : ByteArray} {W W' : World} (h : HB h3 h8 g c n x W) (hb : Below W.heap.size W W') : HB h3 h8 g c n x W' := by
  obtain ⟨a, b, d, e, f⟩ := h
  exact ⟨(hb.cell (p := ⟨h3, 0, none⟩) e).trans a, (hb.cell (p := ⟨h8, 0, none⟩) f).trans b, (hb.cell (p := ⟨h8, 1, none⟩) f).trans d, Nat.lt_of_lt_of_le e hb.size, Nat.lt_of_lt_of_le f hb.size⟩
theorem HB.drew {h3 h8 g c n : Nat} {x : ByteArray} {W : World} (h : HB h3 h8 g c n x W) : HB h3 h8 g c n x W.drew := h
theorem HB.store {h3 h8 g c n : Nat} {x : ByteArray} {W : World} (h : HB h3 h8 g c n x W) (n3 : g ≠ h3) (n8 : g ≠ h8) (i : Nat) (u : Value) : HB h3 h8 g c n x (W.setCell ⟨g, i, none⟩ u) := by
  obtain ⟨a, b, d, e, f⟩ := h
  have q := fun (k : Nat) (j : Nat) (hk : g ≠ k) => World.cell?_of_block (a := ⟨k, j, none⟩) (Below.heap_setCell W ⟨g, i, none⟩ u k hk.symm)
  exact ⟨(q h3 0 n3).trans a, (q h8 0 n8).trans b, (q h8 1 n8).trans d, by simpa [World.setCell] using e, by simpa [World.setCell] using f⟩

def OPost (base g : Nat) (D : Dk) (w : World) (r : Ending) (w' : World) : Prop :=
  ∃ (c b e : Nat), r = .returned (.agg #[.slice (some ⟨g, 0, none⟩) D.cells.length c, .slice (some ⟨b, 0, none⟩) D.waits.length e, .bool D.gone]) ∧ DkOwn w' base (.agg #[.slice (some ⟨g, 0, none⟩) D.cells.length c, .slice (some ⟨b, 0, none⟩) D.waits.length e, .bool D.gone]) D ∧ w.grownBy w' (some g) ∧ w.heap.size ≤ b

theorem bel_boxB {b : Nat} {w W : World} {R : Nat} (h : Below b w W) (hR : b ≤ R) (x y z : Value) : Below b w (((W.setCell ⟨R, 0, none⟩ x).setCell ⟨R, 1, none⟩ y).setCell ⟨R, 2, none⟩ z) :=
  ((h.setCell (p := ⟨R, 0, none⟩) hR x).setCell (p := ⟨R, 1, none⟩) hR y).setCell (p := ⟨R, 2, none⟩) hR z
theorem cell_new2 (W : World) (t : TypeId) (a b : Value) : (W.alloc (.cells #[a, b] t)).cell? ⟨W.heap.size, 0, none⟩ = some a ∧ (W.alloc (.cells #[a, b] t)).cell? ⟨W.heap.size, 1, none⟩ = some b := by
  have h := heap_alloc_new W (.cells #[a, b] t)
  generalize W.alloc (.cells #[a, b] t) = V at h ⊢
  simp [World.cell?, h]

set_option maxRecDepth 100000 in
set_option maxHeartbeats 4000000 in
theorem l3crash (base : Nat) (g : Nat) (B : Option Addr) (c e : Nat) (d : Dk) (mask tear : Int) (w : World) (hbase : base ≤ w.heap.size) (hA : DkOwn w base (.agg #[.slice (some ⟨g, 0, none⟩) d.cells.length c, .slice B d.waits.length e, .bool d.gone]) d) (hok : DkOk d) (h0 : 0 ≤ mask) (h1 : mask ≤ 9223372036854775807) :
    Calls Try.prog 68 #[.agg #[.slice (some ⟨g, 0, none⟩) d.cells.length c, .slice B d.waits.length e, .bool d.gone], .int .i64 mask, .int .i64 tear] w (OPost base g ⟨st d.waits mask tear d.cells d.waits.length, [], d.gone⟩ w) := by
  obtain ⟨tt, htt, o1, o2⟩ := hA.rows
  clear hA
  obtain ⟨cs, ws, gone⟩ := d
  obtain ⟨h64, h120, _, hsm, hws⟩ := hok
  simp only at o1 o2 h64 h120 hsm hws ⊢
  rw [h64] at o1 ⊢
  have hlen := fun k => st_len ws mask tear cs k
  rw [h64] at hlen
  have hsmall := fun k => st_small (mask := mask) (tear := tear) hsm hws k
  have bl : Below w.heap.size w ((w.alloc (.cells #[.slice (some ⟨g, 0, none⟩) 64 c, .slice B ws.length e, .bool gone] 60)).alloc (.cells #[.slice none 0 0, .slice none 0 0, .bool false] 60)) := bel_new (bel_new (Below.refl _ _) _) _
  have K0 : CrK base tt g c B e ws gone w ((w.alloc (.cells #[.slice (some ⟨g, 0, none⟩) 64 c, .slice B ws.length e, .bool gone] 60)).alloc (.cells #[.slice none 0 0, .slice none 0 0, .bool false] 60)) cs :=
    ⟨TwoB.bx1 w _ _ _, TwoB.bx2 w _ _ _, own_bel o1 bl, own_bel o2 bl, below_grown bl _⟩
  have hwl := fun k (hk : k < ws.length) => hws ws[k] (List.getElem_mem hk)
  clear o1 o2 bl hws hsm
  go_enter Try.func68, Try.ntmps68
  go_wp2
  go_loopw [7] (fun i wr => ∃ k : Nat, k ≤ ws.length ∧ i = .int .i64 k ∧ CrK base tt g c B e ws gone w wr (st ws mask tear cs k)) (fun i _ => ws.length - (intOf i).toNat)
  case atStart => exact ⟨0, Nat.zero_le _, rfl, K0⟩
  case round =>
    clear K0
    obtain ⟨k, hk, rfl, K⟩ := hrel
    by_cases hlt : k < ws.length
    · obtain ⟨⟨x0, x1, x2⟩, _⟩ := K.b3.cells
      obtain ⟨BB, ee, hBe, lw⟩ := own_lies K.wts
      obtain ⟨rfl, rfl⟩ : B = BB ∧ e = ee := by simpa using hBe
      obtain ⟨b, off, rfl, hb, y0, y1⟩ := lw.wt k hlt
      obtain ⟨hn0, hn63, ht200⟩ := hwl k hlt
      have hstep := st_next ws mask tear cs k hlt
      obtain ⟨n, hn⟩ : ∃ n : Nat, ws[k].num = (n : Int) := ⟨ws[k].num.toNat, by omega⟩
      obtain ⟨x, hx⟩ : ∃ x, ws[k].text = x := ⟨_, rfl⟩
      have hst := hlen k
      have hsk := hsmall k
      have KN : CrK base tt g c _ e ws gone w (wr.alloc (.cells #[.int .i64 n, .string x] 94)) (st ws mask tear cs k) := K.below (bel_new (Below.refl _ _) _) hbase
      have hlt' : (k : Int) < (ws.length : Int) := by omega
      obtain ⟨j, q, hj, hq0, hq1, hbit, ht60, hm60, hdiv, hq2⟩ := bit_nums mask k h0 h1
      have hs : mask / 2 ^ ((j : Int)).toNat = q := by rw [Int.toNat_natCast]; exact hdiv
      have hj0 : (0 : Int) ≤ (j : Int) := by omega
      have hj1 : (j : Int) ≤ 64 := by omega
      rw [hn] at hn63 y0
      rw [hx] at ht200 y1
      have hn64 : (n : Int) < 64 := by omega
      have hn64' : n < 64 := by omega
      have hge := K.row.lt g rfl
      have hg3 : g ≠ w.heap.size := fun e => own_ne_box K.row K.b3 (by rcases htt with rfl | rfl <;> decide) (by rw [e]; rfl)
      have hcN : (wr.alloc (.cells #[.int .i64 n, .string x] 94)).cell? ⟨g, n, none⟩ = some (.string ((st ws mask tear cs k)[n]'(by omega))) := by
        rw [KN.row.cellAt n (by omega)]
        exact strCells_at _ n _
      have hfN := KN.row.frozenAt n
      obtain ⟨⟨z0, z1, z2⟩, _⟩ := KN.b3.cells
      have hgw : g < wr.heap.size := hge.2
      have KM := KN.store htt n x
      rw [World.setCell_alloc_past _ _ _ _ hgw] at KM
      have hw1 := IntWalk.i64_in ((k : Int) + 1) (by omega)
      obtain ⟨old, hold⟩ : ∃ old, old = (st ws mask tear cs k)[n]'(by omega) := ⟨_, rfl⟩
      rw [← hold] at hcN
      by_cases hb1 : q % 2 = 1
      · have hb2 : (q % 2 == 1) = true := by simpa using hb1
        rw [stp_bit (by rw [hbit]; simpa using hb1), hn, hx, Int.toNat_natCast] at hstep
        have HST := Lib.hid hstep
        clear hstep hbit hold hsk hst hn hx hwl hsmall hlen K KN h0 h1 h120
        go_wp2_with fail
        go_roundw
        case rel => exact ⟨k + 1, by omega, by go_num, by rw [HST.out]; exact KM⟩
        case measure => simp [intOf]; omega
      · have hb2 : (q % 2 == 1) = false := by simpa using hb1
        have hbf : bitM mask k = false := by rw [hbit]; simpa using hb1
        clear KM
        by_cases hte : (k : Int) = tear
        · rw [stp_tear hbf hte, hn, hx, Int.toNat_natCast, List.getD_eq_getElem?_getD, List.getElem?_eq_getElem (by omega), ← hold] at hstep
          simp only [Option.getD_some] at hstep
          have ho200 : old.size ≤ 200 := by rw [hold]; exact hsk _ (List.getElem_mem _)
          have hT := fun W => spec_torn old x W ho200 ht200
          obtain ⟨z, hz⟩ : ∃ z, z = torn old x := ⟨_, rfl⟩
          rw [← hz] at hT hstep
          subst hte
          have HST := Lib.hid hstep
          have hb0 : HB w.heap.size wr.heap.size g c n x (wr.alloc (.cells #[.int .i64 n, .string x] 94)) := ⟨z0, (cell_new2 _ _ _ _).1, (cell_new2 _ _ _ _).2, by have := KN.b3.lt; omega, by simp⟩
          have hbd := hb0.drew
          have hg8 : g ≠ wr.heap.size := by omega
          have HK := Lib.hid KN
          clear hstep hbit hold hsk hst hn hx hwl hsmall hlen K KN h0 h1 h120 hz ho200
          go_upto_region 8 with fail
          obtain ⟨WN, hWN⟩ : ∃ W, W = wr.alloc (.cells #[.int .i64 n, .string x] 94) := ⟨_, rfl⟩
          rw [← hWN] at hb0 hbd z0 hcN hfN HK ⊢
          clear hWN z1 z2 x0 x1 x2 y0 y1 lw hb hlt' hm60 ht60 hdiv hq2 hs hj0 hj1 hb1 hb2 hbf hge
          have ho := HK.out.row
          have hgN : g < WN.drew.heap.size := (ho.lt g rfl).2
          have hod : WN.drew.ownsRow base tt 1 (.slice (some ⟨g, 0, none⟩) 64 c) 64 (strCells (st ws mask k cs k)) := ho
          refine wp_region_held_drew (S := (fun W => W.cell? ⟨w.heap.size, 0, none⟩ = some (.slice (some ⟨g, 0, none⟩) 64 c) ∧ W.cell? ⟨wr.heap.size, 0, none⟩ = some (.int .i64 n) ∧ W.cell? ⟨wr.heap.size, 1, none⟩ = some (.string x) ∧ w.heap.size < W.heap.size ∧ wr.heap.size < W.heap.size)) (by kernel_rfl) (show HB w.heap.size wr.heap.size g c n x _ from hbd) (fun hHeld => ?_)
          refine wpAnyH_take (i := 0) (v := ?v0) rfl (by kernel_rfl) (by kernel_rfl) (by kernel_rfl) (fun _ _ _ h => h) (Or.inl ⟨by rfl, ?hy0⟩) (by assumption) ?rest0
          case hy0 => (intro W hSw; (try dsimp only at hSw); go_simp <;> with_reducible rfl)
          try simp only [Act.put, List.setIfInBounds_toArray, List.set_cons_zero, List.set_cons_succ]
          refine wpAnyH_take (i := 1) (v := ?v1) rfl (by kernel_rfl) (by kernel_rfl) (by kernel_rfl) (fun _ _ _ h => h) (Or.inl ⟨by rfl, ?hy1⟩) (by assumption) ?rest1
          case hy1 => (intro W hSw; (try dsimp only at hSw); go_simp <;> with_reducible rfl)
          try simp only [Act.put, List.setIfInBounds_toArray, List.set_cons_zero, List.set_cons_succ]
          refine wpAnyH_take (i := 2) (v := ?v2) rfl (by kernel_rfl) (by kernel_rfl) (by kernel_rfl) (fun _ _ _ h => h) (Or.inl ⟨by rfl, ?hy2⟩) (by assumption) ?rest2
          case hy2 => (intro W hSw; (try dsimp only at hSw); go_simp <;> with_reducible rfl)
          try simp only [Act.put, List.setIfInBounds_toArray, List.set_cons_zero, List.set_cons_succ]
          refine wpAnyH_take (i := 3) (v := ?v3) rfl (by kernel_rfl) (by kernel_rfl) (by kernel_rfl) (fun _ _ _ h => h) (Or.inl ⟨by rfl, ?hy3⟩) (by assumption) ?rest3
          case hy3 => (intro W hSw; (try dsimp only at hSw); go_simp <;> with_reducible rfl)
          try simp only [Act.put, List.setIfInBounds_toArray, List.set_cons_zero, List.set_cons_succ]
          refine wpAnyH_take (i := 4) (v := ?v4) rfl (by kernel_rfl) (by kernel_rfl) (by kernel_rfl) (fun _ _ _ h => h) (Or.inl ⟨by rfl, ?hy4⟩) (by assumption) ?rest4
          case hy4 => (intro W hSw; (try dsimp only at hSw); go_simp <;> with_reducible rfl)
          try simp only [Act.put, List.setIfInBounds_toArray, List.set_cons_zero, List.set_cons_succ]
          refine wpAnyH_take (i := 5) (v := ?v5) rfl (by kernel_rfl) (by kernel_rfl) (by kernel_rfl) (fun _ _ _ h => h) (Or.inl ⟨by rfl, ?hy5⟩) (by assumption) ?rest5
          case hy5 => (intro W hSw; (try dsimp only at hSw); go_simp <;> with_reducible rfl)
          try simp only [Act.put, List.setIfInBounds_toArray, List.set_cons_zero, List.set_cons_succ]
          refine wpAnyH_take (i := 6) (v := ?v6) rfl (by kernel_rfl) (by kernel_rfl) (by kernel_rfl) (fun _ _ _ h => h) (Or.inl ⟨by rfl, ?hy6⟩) (by assumption) ?rest6
          case hy6 => (intro W hSw; (try dsimp only at hSw); go_simp <;> with_reducible rfl)
          try simp only [Act.put, List.setIfInBounds_toArray, List.set_cons_zero, List.set_cons_succ]
          refine wpAnyH_take (i := 7) (v := ?v7) rfl (by kernel_rfl) (by kernel_rfl) (by kernel_rfl) (fun _ _ _ h => h) (Or.inl ⟨by rfl, ?hy7⟩) (by assumption) ?rest7
          case hy7 => (intro W hSw; (try dsimp only at hSw); go_simp <;> with_reducible rfl)
          try simp only [Act.put, List.setIfInBounds_toArray, List.set_cons_zero, List.set_cons_succ]
          refine wpAnyH_take (i := 8) (v := ?v8) rfl (by kernel_rfl) (by kernel_rfl) (by kernel_rfl) (fun _ _ _ h => h) (Or.inl ⟨by rfl, ?hy8⟩) (by assumption) ?rest8
          case hy8 => (intro W hSw; (try dsimp only at hSw); go_simp <;> with_reducible rfl)
          try simp only [Act.put, List.setIfInBounds_toArray, List.set_cons_zero, List.set_cons_succ]
          refine wpAnyH_take (i := 10) (v := ?v10) rfl (by kernel_rfl) (by kernel_rfl) (by kernel_rfl) (fun _ _ _ h => h) (Or.inl ⟨by rfl, ?hy10⟩) (by assumption) ?rest10
          case hy10 => (intro W hSw; (try dsimp only at hSw); go_simp <;> with_reducible rfl)
          try simp only [Act.put, List.setIfInBounds_toArray, List.set_cons_zero, List.set_cons_succ]
          refine wpAnyH_take (i := 11) (v := ?v11) rfl (by kernel_rfl) (by kernel_rfl) (by kernel_rfl) (fun _ _ _ h => h) (Or.inl ⟨by rfl, ?hy11⟩) (by assumption) ?rest11
          case hy11 => (intro W hSw; (try dsimp only at hSw); go_simp <;> with_reducible rfl)
          try simp only [Act.put, List.setIfInBounds_toArray, List.set_cons_zero, List.set_cons_succ]
          refine wpAnyH_ready (rs := [9]) (by kernel_rfl) (by simp) ?_
          refine AllReadyH.cons rfl (fun K hK => ?_) AllReadyH.nil
          go_simp
          refine hK.out _ _ (show HB w.heap.size wr.heap.size g c n x _ from hbd) (fun hHeld => ?_)
          clear hK K
          try simp only [Act.put, List.setIfInBounds_toArray, List.set_cons_zero, List.set_cons_succ]
          refine wpAnyH_ready (rs := [12]) (by kernel_rfl) (by simp) ?_
          refine AllReadyH.cons rfl (fun K hK => ?_) AllReadyH.nil
          go_simp
          go_at_call 102
          refine (hT _).mono ?_
          rintro r w2 ⟨rfl, hbl⟩
          have hb2 := hbd.next hbl
          have o2 := own_bel (w' := w2) hod hbl
          have hf2 := o2.frozenAt n
          have hc2 : w2.cell? ⟨g, n, none⟩ = some (.string old) := (hbl.cell (p := ⟨g, n, none⟩) hgN).trans hcN
          refine hK.out _ _ (show HB w.heap.size wr.heap.size g c n x _ from hb2) (fun hHeld => ?_)
          clear hK K
          try simp only [Act.put, List.setIfInBounds_toArray, List.set_cons_zero, List.set_cons_succ]
          refine wpAnyH_take (i := 13) (v := ?v13) rfl (by kernel_rfl) (by kernel_rfl) (by kernel_rfl) (fun _ _ _ h => h) (Or.inl ⟨by rfl, ?hy13⟩) (by assumption) ?rest13
          case hy13 => (intro W hSw; (try dsimp only at hSw); go_simp <;> with_reducible rfl)
          try simp only [Act.put, List.setIfInBounds_toArray, List.set_cons_zero, List.set_cons_succ]
          refine wpAnyH_ready (rs := [14]) (by kernel_rfl) (by simp) ?_
          refine AllReadyH.cons rfl (fun K hK => ?_) AllReadyH.nil
          go_simp
          refine hK.out _ _ (show HB w.heap.size wr.heap.size g c n x _ from hb2.store hg3 hg8 _ _) (fun hHeld => ?_)
          clear hK K
          try simp only [Act.put, List.setIfInBounds_toArray, List.set_cons_zero, List.set_cons_succ]
          refine wpAnyH_done (by kernel_rfl) ?_ _
          have KW := ((HK.out.below ((below_drewN (Below.refl _ WN) 1).trans hbl) hbase).store htt n z)
          go_wp2_with fail
          go_roundw
          case rel => exact ⟨k + 1, by omega, by go_num, by rw [HST.out]; exact KW⟩
          case measure => simp [intOf]; omega
        · have hte' : ((k : Int) == tear) = false := by simpa using hte
          rw [stp_none hbf hte] at hstep
          have HST := Lib.hid hstep
          clear hstep hbit hold hsk hst hn hx hwl hsmall hlen K h0 h1 h120
          go_wp2_with fail
          go_roundw
          case rel => exact ⟨k + 1, by omega, by go_num, by rw [HST.out]; exact KN⟩
          case measure => simp [intOf]; omega
    · have hke : k = ws.length := by omega
      subst hke
      have hl := hlen ws.length
      have lt6 := K.b6.lt
      obtain ⟨⟨r0, r1, r2⟩, _⟩ := K.b3.cells
      have hsz := K.bel.size
      have b3 := K.b3.alloc (.cells #[] 94)
      have b6 := K.b6.alloc (.cells #[] 94)
      obtain ⟨⟨x0, x1, x2⟩, x3, x4, x5⟩ := b3.cells
      obtain ⟨⟨y0, y1, y2⟩, y3, y4, y5⟩ := b6.cells
      have ow : DkOwn (wr.alloc (.cells #[] 94)) base (.agg #[.slice (some ⟨g, 0, none⟩) 64 c, .slice (some ⟨wr.heap.size, 0, none⟩) 0 0, .bool gone]) ⟨st ws mask tear cs ws.length, [], gone⟩ :=
        ⟨tt, _, _, rfl, htt, by rw [hl]; exact K.row.alloc _, World.ownsRow_made (e := 94) (size := 2) wr #[] 0 (by omega) (Nat.zero_le _) rfl⟩
      have ow2 := (ow.set_box b3 1 (.slice (some ⟨wr.heap.size, 0, none⟩) 0 0)).box2 (b6.set (p := ⟨w.heap.size, 1, none⟩) (by simp) (.slice (some ⟨wr.heap.size, 0, none⟩) 0 0)) (.slice (some ⟨g, 0, none⟩) 64 c) (.slice (some ⟨wr.heap.size, 0, none⟩) 0 0) (.bool gone)
      have BB := gset (p := ⟨w.heap.size + 1, 2, none⟩) (gset (p := ⟨w.heap.size + 1, 1, none⟩) (gset (p := ⟨w.heap.size + 1, 0, none⟩) (gset (p := ⟨w.heap.size, 1, none⟩) (galloc K.bel (.cells #[] 94)) (Nat.le_refl _) (.slice (some ⟨wr.heap.size, 0, none⟩) 0 0)) (Nat.le_succ _) (.slice (some ⟨g, 0, none⟩) 64 c)) (Nat.le_succ _) (.slice (some ⟨wr.heap.size, 0, none⟩) 0 0)) (Nat.le_succ _) (.bool gone)
      have q3 : w.heap.size ≠ w.heap.size + 1 := by omega
      clear hlen hsmall hwl b3 b6 ow K
      go_wp2_with fail
      refine bodyPost_ret (v := .agg #[.slice (some ⟨g, 0, none⟩) 64 c, .slice (some ⟨wr.heap.size, 0, none⟩) 0 0, .bool gone]) (by simp [results, Try.f68, go_sem, y0, y1, y2]) rfl ?_
      refine ⟨c, wr.heap.size, 0, ?_, ?_, BB, hsz⟩
      · simp only [hl, List.length_nil]
      · simp only [hl, List.length_nil]; exact ow2
end Go.Proofs.Ytndckncoipkhaaa

namespace Go.Proofs.Ytndckncoipkhaaa
open Go.RowKit

def FB (h3 g c b k n e : Nat) (m : Nat) (x : ByteArray) (W : World) : Prop :=
  W.cell? ⟨h3, 0, none⟩ = some (.slice (some ⟨g, 0, none⟩) 64 c) ∧ W.cell? ⟨h3, 1, none⟩ = some (.slice (some ⟨b, 0, none⟩) m e) ∧ W.cell? ⟨b, k * 2, none⟩ = some (.int .i64 n) ∧ W.cell? ⟨b, k * 2 + 1, none⟩ = some (.string x)
theorem FB.drew {h3 g c b k n e m : Nat} {x : ByteArray} {W : World} (h : FB h3 g c b k n e m x W) : FB h3 g c b k n e m x W.drew := h
theorem FB.store {h3 g c b k n e m : Nat} {x : ByteArray} {W : World} (h : FB h3 g c b k n e m x W) (n3 : g ≠ h3) (n8 : g ≠ b) (i : Nat) (u : Value) : FB h3 g c b k n e m x (W.setCell ⟨g, i, none⟩ u) := by
  obtain ⟨a, b', d, f⟩ := h
  have q := fun (k : Nat) (j : Nat) (hk : g ≠ k) => World.cell?_of_block (a := ⟨k, j, none⟩) (Below.heap_setCell W ⟨g, i, none⟩ u k hk.symm)
  exact ⟨(q h3 0 n3).trans a, (q h3 1 n3).trans b', (q b _ n8).trans d, (q b _ n8).trans f⟩

theorem CrK.drew {base : Nat} {t : TypeId} {g c : Nat} {B : Option Addr} {e : Nat} {ws : List Wt} {gone : Bool} {w W : World} {cs : List ByteArray} (h : CrK base t g c B e ws gone w W cs) : CrK base t g c B e ws gone w W.drew cs :=
  ⟨h.b3, h.b6, h.row, h.wts, gdrew h.bel⟩

set_option maxRecDepth 100000 in
set_option maxHeartbeats 4000000 in
theorem l3flush (base : Nat) (g : Nat) (B : Option Addr) (c e : Nat) (d : Dk) (w : World) (hbase : base ≤ w.heap.size) (hA : DkOwn w base (.agg #[.slice (some ⟨g, 0, none⟩) d.cells.length c, .slice B d.waits.length e, .bool d.gone]) d) (hok : DkOk d) :
    Calls Try.prog 101 #[.agg #[.slice (some ⟨g, 0, none⟩) d.cells.length c, .slice B d.waits.length e, .bool d.gone]] w (OPost base g ⟨st d.waits 1152921504606846975 (-1) d.cells d.waits.length, [], d.gone⟩ w) := by
  obtain ⟨tt, htt, o1, o2⟩ := hA.rows
  clear hA
  obtain ⟨cs, ws, gone⟩ := d
  obtain ⟨h64, h120, _, hsm, hws⟩ := hok
  simp only at o1 o2 h64 h120 hsm hws ⊢
  rw [h64] at o1 ⊢
  obtain ⟨mask, hmask⟩ : ∃ m : Int, m = 1152921504606846975 := ⟨_, rfl⟩
  obtain ⟨tear, htear⟩ : ∃ m : Int, m = -1 := ⟨_, rfl⟩
  rw [← hmask, ← htear]
  have hbit : ∀ k, bitM mask k = true := fun k => by rw [hmask]; exact bit_all k
  have hlen := fun k => st_len ws mask tear cs k
  rw [h64] at hlen
  have bl : Below w.heap.size w ((w.alloc (.cells #[.slice (some ⟨g, 0, none⟩) 64 c, .slice B ws.length e, .bool gone] 60)).alloc (.cells #[.slice none 0 0, .slice none 0 0, .bool false] 60)) := bel_new (bel_new (Below.refl _ _) _) _
  have K0 : CrK base tt g c B e ws gone w ((w.alloc (.cells #[.slice (some ⟨g, 0, none⟩) 64 c, .slice B ws.length e, .bool gone] 60)).alloc (.cells #[.slice none 0 0, .slice none 0 0, .bool false] 60)) cs :=
    ⟨TwoB.bx1 w _ _ _, TwoB.bx2 w _ _ _, own_bel o1 bl, own_bel o2 bl, below_grown bl _⟩
  have hwl := fun k (hk : k < ws.length) => hws ws[k] (List.getElem_mem hk)
  clear o1 o2 bl hws hsm hmask htear
  go_enter Try.func101, Try.ntmps101
  go_wp2
  go_loopw [3] (fun i wr => ∃ k : Nat, k ≤ ws.length ∧ i = .int .i64 k ∧ CrK base tt g c B e ws gone w wr (st ws mask tear cs k)) (fun i _ => ws.length - (intOf i).toNat)
  case atStart => exact ⟨0, Nat.zero_le _, rfl, K0⟩
  case round =>
    clear K0
    obtain ⟨k, hk, rfl, K⟩ := hrel
    by_cases hlt : k < ws.length
    · obtain ⟨⟨x0, x1, x2⟩, _⟩ := K.b3.cells
      obtain ⟨BB, ee, hBe, lw⟩ := own_lies K.wts
      obtain ⟨rfl, rfl⟩ : B = BB ∧ e = ee := by simpa using hBe
      obtain ⟨b, rfl⟩ := own_addr K.wts (by omega)
      obtain ⟨b', off', hbb, hb, y0, y1⟩ := lw.wt k hlt
      obtain ⟨rfl, rfl⟩ : b = b' ∧ 0 = off' := by simpa using hbb
      rw [Nat.zero_add] at y0 y1
      have hgb : g ≠ b := fun h => by
        rcases own_ne K.row K.wts (by rcases htt with rfl | rfl <;> decide) with h' | h'
        · simp [Value.ownBlock] at h'
        · exact h' (by simp [Value.ownBlock, h])
      have hg3 : g ≠ w.heap.size := fun e => own_ne_box K.row K.b3 (by rcases htt with rfl | rfl <;> decide) (by rw [e]; rfl)
      obtain ⟨hn0, hn63, ht200⟩ := hwl k hlt
      have hstep := st_next ws mask tear cs k hlt
      obtain ⟨n, hn⟩ : ∃ n : Nat, ws[k].num = (n : Int) := ⟨ws[k].num.toNat, by omega⟩
      obtain ⟨x, hx⟩ : ∃ x, ws[k].text = x := ⟨_, rfl⟩
      have hst := hlen k
      have hlt' : (k : Int) < (ws.length : Int) := by omega
      rw [hn] at hn63 y0
      rw [hx] at ht200 y1
      have hn64 : (n : Int) < 64 := by omega
      have hn64' : n < 64 := by omega
      have hcN : wr.cell? ⟨g, n, none⟩ = some (.string ((st ws mask tear cs k)[n]'(by omega))) := by
        rw [K.row.cellAt n (by omega)]
        exact strCells_at _ n _
      have hfN := K.row.frozenAt n
      have KM := K.store htt n x
      have hw1 := IntWalk.i64_in ((k : Int) + 1) (by omega)
      obtain ⟨old, hold⟩ : ∃ old, old = (st ws mask tear cs k)[n]'(by omega) := ⟨_, rfl⟩
      rw [← hold] at hcN
      rw [stp_bit (hbit k), hn, hx, Int.toNat_natCast] at hstep
      have HST := Lib.hid hstep
      have fb := (show FB w.heap.size g c b k n e ws.length x wr from ⟨x0, x1, y0, y1⟩)
      have fbd := fb.drew
      clear hstep hbit hold hst hn hx hwl hlen K h120 hbb
      go_upto_region 4 with fail
      clear lw hb
      go_region_held3 (fun W => W.cell? ⟨w.heap.size, 0, none⟩ = some (.slice (some ⟨g, 0, none⟩) 64 c) ∧ W.cell? ⟨w.heap.size, 1, none⟩ = some (.slice (some ⟨b, 0, none⟩) ws.length e) ∧ W.cell? ⟨b, k * 2, none⟩ = some (.int .i64 n) ∧ W.cell? ⟨b, k * 2 + 1, none⟩ = some (.string x))
        ((show FB w.heap.size g c b k n e ws.length x _; with_reducible (first | exact fb | exact fbd | exact (fb.store hg3 hgb _ _).drew | exact fb.store hg3 hgb _ _ | exact fbd.store hg3 hgb _ _)))
        (first | fail)
      go_wp2_with fail
      go_roundw
      case rel => exact ⟨k + 1, by omega, by go_num, by rw [HST.out]; exact KM.drew⟩
      case measure => simp [intOf]; omega
    · have hke : k = ws.length := by omega
      subst hke
      have hl := hlen ws.length
      have lt6 := K.b6.lt
      obtain ⟨⟨r0, r1, r2⟩, _⟩ := K.b3.cells
      have hsz := K.bel.size
      have b3 := K.b3.alloc (.cells #[] 94)
      have b6 := K.b6.alloc (.cells #[] 94)
      obtain ⟨⟨x0, x1, x2⟩, x3, x4, x5⟩ := b3.cells
      obtain ⟨⟨y0, y1, y2⟩, y3, y4, y5⟩ := b6.cells
      have ow : DkOwn (wr.alloc (.cells #[] 94)) base (.agg #[.slice (some ⟨g, 0, none⟩) 64 c, .slice (some ⟨wr.heap.size, 0, none⟩) 0 0, .bool gone]) ⟨st ws mask tear cs ws.length, [], gone⟩ :=
        ⟨tt, _, _, rfl, htt, by rw [hl]; exact K.row.alloc _, World.ownsRow_made (e := 94) (size := 2) wr #[] 0 (by omega) (Nat.zero_le _) rfl⟩
      have ow2 := (ow.set_box b3 1 (.slice (some ⟨wr.heap.size, 0, none⟩) 0 0)).box2 (b6.set (p := ⟨w.heap.size, 1, none⟩) (by simp) (.slice (some ⟨wr.heap.size, 0, none⟩) 0 0)) (.slice (some ⟨g, 0, none⟩) 64 c) (.slice (some ⟨wr.heap.size, 0, none⟩) 0 0) (.bool gone)
      have BB := gset (p := ⟨w.heap.size + 1, 2, none⟩) (gset (p := ⟨w.heap.size + 1, 1, none⟩) (gset (p := ⟨w.heap.size + 1, 0, none⟩) (gset (p := ⟨w.heap.size, 1, none⟩) (galloc K.bel (.cells #[] 94)) (Nat.le_refl _) (.slice (some ⟨wr.heap.size, 0, none⟩) 0 0)) (Nat.le_succ _) (.slice (some ⟨g, 0, none⟩) 64 c)) (Nat.le_succ _) (.slice (some ⟨wr.heap.size, 0, none⟩) 0 0)) (Nat.le_succ _) (.bool gone)
      have q3 : w.heap.size ≠ w.heap.size + 1 := by omega
      clear hlen hwl b3 b6 ow K hbit
      go_wp2_with fail
      refine bodyPost_ret (v := .agg #[.slice (some ⟨g, 0, none⟩) 64 c, .slice (some ⟨wr.heap.size, 0, none⟩) 0 0, .bool gone]) (by simp [results, Try.f101, go_sem, y0, y1, y2]) rfl ?_
      refine ⟨c, wr.heap.size, 0, ?_, ?_, BB, hsz⟩
      · simp only [hl, List.length_nil]
      · simp only [hl, List.length_nil]; exact ow2
end Go.Proofs.Ytndckncoipkhaaa

namespace Go.Proofs.Ytndckncoipkhaaa
open Go.RowKit

/-- The box of a waiting write, and a cell of the array. -/
def SB (h g n : Nat) (x old : ByteArray) (W : World) : Prop :=
  W.cell? ⟨h, 0, none⟩ = some (.int .i64 n) ∧ W.cell? ⟨h, 1, none⟩ = some (.string x) ∧ W.cell? ⟨g, n, none⟩ = some (.string old) ∧ h < W.heap.size ∧ g < W.heap.size
theorem SB.next {h g n : Nat} {x old : ByteArray} {W W' : World} (k : SB h g n x old W) (hb : Below W.heap.size W W') : SB h g n x old W' := by
  obtain ⟨a, b, d, e, f⟩ := k
  exact ⟨(hb.cell (p := ⟨h, 0, none⟩) e).trans a, (hb.cell (p := ⟨h, 1, none⟩) e).trans b, (hb.cell (p := ⟨g, n, none⟩) f).trans d, Nat.lt_of_lt_of_le e hb.size, Nat.lt_of_lt_of_le f hb.size⟩
theorem SB.drew {h g n : Nat} {x old : ByteArray} {W : World} (k : SB h g n x old W) : SB h g n x old W.drew := k
/-- The number in a box. -/
def S7 (h n : Nat) (W : World) : Prop := W.cell? ⟨h, 0, none⟩ = some (.int .i64 n)
theorem S7.drew {h n : Nat} {W : World} (k : S7 h n W) : S7 h n W.drew := k
theorem S7.store {h n g : Nat} {W : World} (k : S7 h n W) (hg : g ≠ h) (i : Nat) (u : Value) : S7 h n (W.setCell ⟨g, i, none⟩ u) :=
  (World.cell?_of_block (a := ⟨h, 0, none⟩) (Below.heap_setCell W ⟨g, i, none⟩ u h hg.symm)).trans k

structure SK (base g c : Nat) (w W : World) (cs : List ByteArray) : Prop where
  row : W.ownsRow base 84 1 (.slice (some ⟨g, 0, none⟩) 64 c) 64 (strCells cs)
  bel : Below base w W
theorem SK.drew {base g c : Nat} {w W : World} {cs : List ByteArray} (h : SK base g c w W cs) : SK base g c w W.drew cs := ⟨h.row, below_drewN h.bel 1⟩
theorem SK.next {base g c : Nat} {w W W' : World} {cs : List ByteArray} (h : SK base g c w W cs) (hb : Below W.heap.size W W') (hs : base ≤ w.heap.size) : SK base g c w W' cs := ⟨own_bel h.row hb, h.bel.trans (hb.mono (Nat.le_trans hs h.bel.size))⟩
theorem SK.store {base g c : Nat} {w W : World} {cs : List ByteArray} (h : SK base g c w W cs) (i : Nat) (s : ByteArray) : SK base g c w (W.setCell ⟨g, i, none⟩ (.string s)) (cs.set i s) :=
  ⟨own_store h.row i s, h.bel.setCell (p := ⟨g, i, none⟩) (h.row.lt g rfl).1 _⟩

set_option maxRecDepth 100000 in
set_option maxHeartbeats 4000000 in
theorem settle (base g c : Nat) (B : Option Addr) (e : Nat) (cs : List ByteArray) (ws : List Wt) (mask tear : Int) (w : World) (hbase : base ≤ w.heap.size) (hrow : w.ownsRow base 84 1 (.slice (some ⟨g, 0, none⟩) 64 c) 64 (strCells cs))
    (h64 : cs.length = 64) (h120 : ws.length ≤ 120) (hsm : SmallC cs) (hws : ∀ x ∈ ws, WtOk x) (h0 : 0 ≤ mask) (h1 : mask ≤ 9223372036854775807) (hT : ∀ W, Below base w W → Lies W B (wtCells ws)) :
    Calls Try.prog 103 #[.pointer (some ⟨g, 0, none⟩), .slice B ws.length e, .int .i64 mask, .int .i64 tear] w fun r w' => (∃ v, r = .returned v) ∧ SK base g c w w' (st ws mask tear cs ws.length) := by
  have hlen := fun k => st_len ws mask tear cs k
  rw [h64] at hlen
  have hsmall := fun k => st_small (mask := mask) (tear := tear) hsm hws k
  have hwl := fun k (hk : k < ws.length) => hws ws[k] (List.getElem_mem hk)
  have K0 : SK base g c w w cs := ⟨hrow, Below.refl _ _⟩
  have hM := fun (k : Nat) (hk : k ≤ 1000) W => mask_has mask k W h0 h1 hk
  clear hrow hsm hws h0 h1
  go_enter Try.func103, Try.ntmps103
  go_wp2
  go_step3
  go_wp2
  go_step3
  go_wp2
  go_loopw [13] (fun i wr => ∃ k : Nat, k ≤ ws.length ∧ i = .int .i64 k ∧ SK base g c w wr (st ws mask tear cs k)) (fun i _ => ws.length - (intOf i).toNat)
  case atStart => exact ⟨0, Nat.zero_le _, rfl, K0⟩
  case round =>
    clear K0
    obtain ⟨k, hk, rfl, K⟩ := hrel
    by_cases hlt : k < ws.length
    · obtain ⟨b, off, rfl, hb, y0, y1⟩ := (hT _ K.bel).wt k hlt
      obtain ⟨hn0, hn63, ht200⟩ := hwl k hlt
      have hstep := st_next ws mask tear cs k hlt
      obtain ⟨n, hn⟩ : ∃ n : Nat, ws[k].num = (n : Int) := ⟨ws[k].num.toNat, by omega⟩
      obtain ⟨x, hx⟩ : ∃ x, ws[k].text = x := ⟨_, rfl⟩
      have hst := hlen k
      have hsk := hsmall k
      have hlt' : (k : Int) < (ws.length : Int) := by omega
      have hMk := hM k (by omega)
      rw [hn] at hn63 y0
      rw [hx] at ht200 y1
      have hn64 : (n : Int) < 64 := by omega
      have hn64' : n < 64 := by omega
      have hge := K.row.lt g rfl
      have hg8 : g ≠ wr.heap.size := by omega
      have KN : SK base g c w (wr.alloc (.cells #[.int .i64 n, .string x] 94)) (st ws mask tear cs k) := K.next (bel_new (Below.refl _ _) _) hbase
      have hcN : (wr.alloc (.cells #[.int .i64 n, .string x] 94)).cell? ⟨g, n, none⟩ = some (.string ((st ws mask tear cs k)[n]'(by omega))) := by
        rw [KN.row.cellAt n (by omega)]
        exact strCells_at _ n _
      have hw1 := IntWalk.i64_in ((k : Int) + 1) (by omega)
      obtain ⟨old, hold⟩ : ∃ old, old = (st ws mask tear cs k)[n]'(by omega) := ⟨_, rfl⟩
      rw [← hold] at hcN
      have c2 := cell_new2 wr 94 (.int .i64 n) (.string x)
      have sb0 : SB wr.heap.size g n x old (wr.alloc (.cells #[.int .i64 n, .string x] 94)) := ⟨c2.1, c2.2, hcN, by simp, by simp; omega⟩
      by_cases hb1 : bitM mask k = true
      · rw [hb1] at hMk
        rw [stp_bit hb1, hn, hx, Int.toNat_natCast] at hstep
        have HST := Lib.hid hstep
        clear hstep hold hsk hst hn hx hwl hsmall hlen K hM hb1 h120
        go_upto_region 7 with (go_at_call 129; refine (hMk _).mono ?_; rintro r w' ⟨rfl, rfl⟩)
        obtain ⟨WN, hWN⟩ : ∃ W, W = wr.alloc (.cells #[.int .i64 n, .string x] 94) := ⟨_, rfl⟩
        rw [← hWN] at sb0 KN ⊢
        clear hWN hcN c2 y0 y1 hb hge
        have s0 : S7 wr.heap.size n WN := sb0.1
        have sd := s0.drew
        have hf := KN.row.frozenAt n
        have hfd : WN.drew.frozen? ⟨g, n, none⟩ = false := hf
        have hc := sb0.2.2.1
        have hcd : WN.drew.cell? ⟨g, n, none⟩ = some (.string old) := hc
        go_region_held3 (fun W => W.cell? ⟨wr.heap.size, 0, none⟩ = some (.int .i64 n))
          ((show S7 wr.heap.size n _; with_reducible (first | exact s0 | exact sd | exact (s0.store hg8 _ _).drew | exact s0.store hg8 _ _ | exact sd.store hg8 _ _)))
          (first | fail)
        have KW := KN.store n x
        have KW2 := KW.drew
        have KW3 := KN.drew.store n x
        go_wp2_with fail
        go_roundw
        case rel => exact ⟨k + 1, by omega, by go_num, by rw [HST.out]; first | exact KW | exact KW2 | exact KW3⟩
        case measure => simp [intOf]; omega
      · have hbf : bitM mask k = false := by simpa using hb1
        rw [hbf] at hMk
        by_cases hte : (k : Int) = tear
        · rw [stp_tear hbf hte, hn, hx, Int.toNat_natCast, List.getD_eq_getElem?_getD, List.getElem?_eq_getElem (by omega), ← hold] at hstep
          simp only [Option.getD_some] at hstep
          have ho200 : old.size ≤ 200 := by rw [hold]; exact hsk _ (List.getElem_mem _)
          have hTo := fun W => impl_torn old x W ho200 ht200
          obtain ⟨z, hz⟩ : ∃ z, z = torn old x := ⟨_, rfl⟩
          rw [← hz] at hTo hstep
          subst hte
          have HST := Lib.hid hstep
          clear hstep hold hsk hst hn hx hwl hsmall hlen K hM hb1 h120 hz ho200
          go_upto_region 6 with (go_at_call 129; refine (hMk _).mono ?_; rintro r w' ⟨rfl, rfl⟩)
          obtain ⟨WN, hWN⟩ : ∃ W, W = wr.alloc (.cells #[.int .i64 n, .string x] 94) := ⟨_, rfl⟩
          rw [← hWN] at sb0 KN ⊢
          clear hWN hcN c2 y0 y1 hb hge
          have sbd := sb0.drew
          go_region_held3 (fun W => W.cell? ⟨wr.heap.size, 0, none⟩ = some (.int .i64 n) ∧ W.cell? ⟨wr.heap.size, 1, none⟩ = some (.string x) ∧ W.cell? ⟨g, n, none⟩ = some (.string old) ∧ wr.heap.size < W.heap.size ∧ g < W.heap.size)
            ((show SB wr.heap.size g n x old _; with_reducible (first | exact sb0 | exact sbd | exact sb2)))
            (first | (go_at_call 130; refine (hTo _).mono ?_; rintro r w2 ⟨rfl, hbl⟩; have sb2 := sbd.next hbl))
          have K2 := KN.drew.next hbl hbase
          have sb2 := sbd.next hbl
          have s0 : S7 wr.heap.size n w2 := sb2.1
          have sd := s0.drew
          have hf := K2.row.frozenAt n
          have hfd : w2.drew.frozen? ⟨g, n, none⟩ = false := hf
          have hc := sb2.2.2.1
          have hcd : w2.drew.cell? ⟨g, n, none⟩ = some (.string old) := hc
          have KW := K2.store n z
          have KW2 := KW.drew
          have KW3 := K2.drew.store n z
          go_upto_region 7 with fail
          go_region_held3 (fun W => W.cell? ⟨wr.heap.size, 0, none⟩ = some (.int .i64 n))
            ((show S7 wr.heap.size n _; with_reducible (first | exact s0 | exact sd | exact (s0.store hg8 _ _).drew | exact s0.store hg8 _ _ | exact sd.store hg8 _ _)))
            (first | fail)
          go_wp2_with fail
          go_roundw
          case rel => exact ⟨k + 1, by omega, by go_num, by rw [HST.out]; first | exact KW | exact KW2 | exact KW3⟩
          case measure => simp [intOf]; omega
        · have hte' : ((k : Int) == tear) = false := by simpa using hte
          rw [stp_none hbf hte] at hstep
          have HST := Lib.hid hstep
          clear hstep hold hsk hst hn hx hwl hsmall hlen K hM hb1 h120
          go_wp2_with (go_at_call 129; refine (hMk _).mono ?_; rintro r w' ⟨rfl, rfl⟩)
          go_roundw
          case rel => exact ⟨k + 1, by omega, by go_num, by rw [HST.out]; exact KN⟩
          case measure => simp [intOf]; omega
    · have hke : k = ws.length := by omega
      subst hke
      clear hlen hsmall hwl hM
      go_wp2_with fail
      first
        | (show bodyPost _ _ _ Exit.normal _ _; refine bodyPost_normal (results_none rfl _ _ _) rfl ?_)
        | (go_end0)
        | (rw [Exit.noGoto_normal]; go_end0)
      exact ⟨⟨_, rfl⟩, K⟩
end Go.Proofs.Ytndckncoipkhaaa

namespace Go.Proofs.Ytndckncoipkhaaa
open Go.RowKit

theorem DPost.mk {d : Dk} {w W : World} {A B : Option Addr} {c e : Nat} (h : DkOwn W w.heap.size (.agg #[.slice A d.cells.length c, .slice B d.waits.length e, .bool d.gone]) d) (hb : Below w.heap.size w W) :
    DPost d w (.returned (.agg #[.slice A d.cells.length c, .slice B d.waits.length e, .bool d.gone])) W := ⟨_, _, _, _, rfl, h, hb⟩
theorem crashD_yes {d : Dk} {mask tear : Int} (h : DkOk d) (h0 : 0 ≤ mask) : crashD d mask tear = ⟨st d.waits mask tear d.cells d.waits.length, [], d.gone⟩ := if_pos ⟨h, h0⟩
theorem crashD_no {d : Dk} {mask tear : Int} (h : ¬ (DkOk d ∧ 0 ≤ mask)) : crashD d mask tear = dk0 := if_neg h
theorem flushD_yes {d : Dk} (h : DkOk d) : flushD d = ⟨st d.waits 1152921504606846975 (-1) d.cells d.waits.length, [], d.gone⟩ := crashD_yes h (by decide)
theorem flushD_no {d : Dk} (h : ¬ DkOk d) : flushD d = dk0 := crashD_no (fun x => h x.1)

/-- A whole array goes into the block that was made last. -/
theorem wpList_store_new {P : Program} {ops : Array Oper} {rest : List Oper} {op : Oper} {a : Act} {Q : Exit → Act → World → Prop} (hgd : op.guard = none) (ty : TypeId) (x y : Operand) (ho : op.op = .store ty x y) (w : World) (c cells : Array Value)
    (hx : a.eval x = .pointer (some ⟨w.heap.size, 0, none⟩)) (hy : a.eval y = .agg cells) (hi : (P.info? ty).map (·.size) = some cells.size) (hs : c.size = cells.size) (h1 : cells.all (·.oneCell') = true)
    (h : wpList P ops Q rest (a.put op.dst undef) (w.alloc (.cells cells ty))) : wpList P ops Q (op :: rest) a (w.alloc (.cells c ty)) := by
  refine wpList_plain hgd fun K hK => ?_
  have hr := run_storeAt_new (P := P) w ty c cells hi hs h1
  unfold Oper.wp execOp
  simp only [ho, hx, hy, Sem.run_bind, Sem.run_pure, Result.andThen_ok, hr]
  exact hK _ _ h

theorem own_range {w : World} {base g c n : Nat} {t : TypeId} {xs : List Value} (h : w.ownsRow base t 1 (.slice (some ⟨g, 0, none⟩) n c) n xs) : w.rangeAt g 0 xs := fun j v hj => by
  have := h.cells (g := g) rfl j v hj
  rwa [Addr.add_mid] at this
/-- Whether the disk is gone, and its new cells. -/
def CB (h g : Nat) (gone : Bool) (xs : List Value) (W : World) : Prop := W.cell? ⟨h, 2, none⟩ = some (.bool gone) ∧ W.rangeAt g 0 xs ∧ h < W.heap.size ∧ g < W.heap.size
theorem CB.next {h g : Nat} {gone : Bool} {xs : List Value} {W W' : World} (k : CB h g gone xs W) (hb : Below W.heap.size W W') : CB h g gone xs W' := by
  obtain ⟨a, b, d, e⟩ := k
  exact ⟨(hb.cell (p := ⟨h, 2, none⟩) d).trans a, fun j v hj => (hb.cell (p := ⟨g, 0 + j, none⟩) e).trans (b j v hj), Nat.lt_of_lt_of_le d hb.size, Nat.lt_of_lt_of_le e hb.size⟩
theorem CB.drew {h g : Nat} {gone : Bool} {xs : List Value} {W : World} (k : CB h g gone xs W) : CB h g gone xs W.drew := k
theorem CB.set {h g i r : Nat} {gone : Bool} {xs : List Value} {W : World} (k : CB h g gone xs W) (n1 : r ≠ h) (n2 : r ≠ g) (u : Value) : CB h g gone xs (W.setCell ⟨r, i, none⟩ u) := by
  obtain ⟨a, b, d, e⟩ := k
  have q := fun (k : Nat) (j : Nat) (hk : r ≠ k) => World.cell?_of_block (a := ⟨k, j, none⟩) (Below.heap_setCell W ⟨r, i, none⟩ u k hk.symm)
  exact ⟨(q h 2 n1).trans a, fun j v hj => (q g (0 + j) n2).trans (b j v hj), by simpa [World.setCell] using d, by simpa [World.setCell] using e⟩
theorem CB.box {h g r : Nat} {gone : Bool} {xs : List Value} {W : World} (k : CB h g gone xs W) (n1 : r ≠ h) (n2 : r ≠ g) (x y z : Value) : CB h g gone xs (((W.setCell ⟨r, 0, none⟩ x).setCell ⟨r, 1, none⟩ y).setCell ⟨r, 2, none⟩ z) :=
  ((k.set n1 n2 x).set n1 n2 y).set n1 n2 z

set_option maxRecDepth 100000 in
set_option maxHeartbeats 4000000 in
theorem impl_crash (A B : Option Addr) (c e : Nat) (d : Dk) (mask tear : Int) (w : World) (hd : Bulk d) (hA : DkAt w A B d) (h1 : mask ≤ 9223372036854775807) :
    Calls Try.prog 71 #[.agg #[.slice A d.cells.length c, .slice B d.waits.length e, .bool d.gone], .int .i64 mask, .int .i64 tear] w (DPost (crashD d mask tear) w) := by
  have K0 := TwoB.new w (.slice A d.cells.length c) (.slice B d.waits.length e) (.bool d.gone)
  have hle : w.heap.size ≤ w.heap.size + 1 := by omega
  by_cases hok : DkOk d
  · have hO := okPost_yes hok (impl_ok A B c e d _ hd (hA.below K0.one.2.2.2))
    by_cases h0 : 0 ≤ mask
    · have h0' : ¬ mask < 0 := by omega
      rw [crashD_yes hok h0]
      have h64 := hok.1
      have k1 := fun w => arr_at A d.cells.length c (by omega) w
      have hR := fun W hW => (hA.below (w' := W) hW).1.range (by show 0 < (strCells d.cells).length; rw [strCells_len]; omega)
      have i60 := info60 (strCells d.cells).length (by rw [strCells_len, h64])
      have hTT := fun W hW => (hA.below (w' := W) hW).2
      have hS := fun base g c B e W q1 q2 q3 => settle base g c B e d.cells d.waits mask tear W q1 q2 h64 hok.2.1 hok.2.2.2.1 hok.2.2.2.2 h0 h1 q3
      have hLn := fun k => st_len d.waits mask tear d.cells k
      have HL := Lib.hid hLn
      have HS := Lib.hid hS
      have H64 := Lib.hid h64
      have HR := Lib.hid hR
      have HT := Lib.hid hTT
      have II := Lib.hid i60
      have i61 : (Try.prog.info? 84).map (·.size) = some (strCells d.cells).toArray.size := by rw [List.size_toArray]; exact i60
      have hsz : (strCells d.cells).toArray.size = 64 := by rw [List.size_toArray, strCells_len, h64]
      have h1c := all_oneCell_toArray (strCells_one d.cells)
      have ON := fun (w : World) => own_new (w := w) (t := 84) h64
      have II2 := Lib.hid i61
      have SZ := Lib.hid hsz
      have H1C := Lib.hid h1c
      have HON := Lib.hid ON
      clear hok hd hA h0 h1 hLn hS h64 hR hTT i60 i61 hsz h1c ON
      go_enter Try.func71, Try.ntmps71
      go_wp2_with (go_at_call 88; refine hO.mono ?_; rintro r w2 ⟨rfl, hb2⟩; refine Hid.out ?_)
      refine Lib.hid ?_
      have K2 := K0.next hb2
      obtain ⟨x0, x1, x2, y0, y1, y2, f0, f1, f2, _⟩ := id K2
      obtain ⟨b, off, rfl, hbl, hr2⟩ := HR.out _ K2.one.2.2.2
      have RR := Lib.hid hr2
      clear hO K0 hb2 hr2
      go_wp2_with (first
        | refine wpList_load_guard (by first | rfl | simp [Region.wanted, yielded]) 84 _ rfl b off rfl (strCells d.cells) _ RR.out Try.underlying84 rfl II.out ?_
        | (refine wpList_store_new rfl 84 _ _ rfl w2 _ (strCells d.cells).toArray rfl rfl II2.out (by rw [SZ.out]; rfl) H1C.out ?_; refine Hid.out ?_))
      refine Lib.hid ?_
      have ow3 := HON.out w2
      have K3 := K2.alloc (.cells (strCells d.cells).toArray 84)
      have s3 : w2.heap.size < (w2.alloc (.cells (strCells d.cells).toArray 84)).heap.size := by simp
      have s2 := K2.2.2.2.2.2.2.2.2.2.2.1
      obtain ⟨W3, hW3⟩ : ∃ W, W = w2.alloc (.cells (strCells d.cells).toArray 84) := ⟨_, rfl⟩
      rw [← hW3] at ow3 K3 s3 ⊢
      have b23 : Below w2.heap.size w2 W3 := by rw [hW3]; exact bel_new (Below.refl _ _) _
      have S := HS.out w2.heap.size w2.heap.size 64 B e W3 (by omega) ow3 (fun W hW => HT.out W (K3.one.2.2.2.trans (hW.mono (by omega))))
      clear hW3 x0 x1 x2 y0 y1 y2 f0 f1 f2
      obtain ⟨x0, x1, x2, y0, y1, y2, f0, f1, f2, _⟩ := id K3
      have hl64 := HL.out d.waits.length
      rw [H64.out] at hl64
      obtain ⟨cs', hcs'⟩ : ∃ cs', cs' = st d.waits mask tear d.cells d.waits.length := ⟨_, rfl⟩
      rw [← hcs'] at S hl64 ⊢
      have HCS := Lib.hid hcs'
      clear hcs' HL HS HT HR HON II2 SZ H1C RR II ow3
      go_upto_region 5 with (go_at_call 103; refine S.mono ?_; rintro r w5 ⟨⟨v5, rfl⟩, ⟨o5, hb5⟩⟩; refine Hid.out ?_)
      refine Lib.hid ?_
      have K5 := K2.next (b23.trans hb5)
      have cb := (show CB w.heap.size w2.heap.size d.gone (strCells cs') w5 from ⟨K5.2.2.1, own_range o5, K5.2.2.2.2.2.2.2.2.2.1, (o5.lt _ rfl).2⟩)
      have cbd := cb.drew
      have i60' := info60 (strCells cs').length (by rw [strCells_len, hl64])
      have u60 := Try.underlying84
      have hL := fun w => list_any cs' w hl64
      have n1 : w.heap.size + 1 ≠ w.heap.size := by omega
      have n2 : w.heap.size + 1 ≠ w2.heap.size := by omega
      have s5 := (o5.lt _ rfl).2
      clear x0 x1 x2 y0 y1 y2 f0 f1 f2 S b23 hb5 K3 o5
      go_upto_region 5 with fail
      go_region_held3 (fun W => W.cell? ⟨w.heap.size, 2, none⟩ = some (.bool d.gone) ∧ W.rangeAt w2.heap.size 0 (strCells cs') ∧ w.heap.size < W.heap.size ∧ w2.heap.size < W.heap.size)
        ((show CB w.heap.size w2.heap.size d.gone (strCells cs') _; with_reducible (first | exact cb | exact cbd | exact cb7 | exact cb7.box n1 n2 _ _ _)))
        (first | (go_at_call 77; refine (hL _).mono ?_; rintro r w7 ⟨g7, rfl, o7, hb7⟩; have cb7 := cbd.next hb7; have K7 := K5.drew.next hb7; obtain ⟨x0, x1, x2, y0, y1, y2, f0, f1, f2, _⟩ := id K7))
      have s6 : w.heap.size + 1 + 1 ≤ w5.drew.heap.size := K5.2.2.2.2.2.2.2.2.2.2.1
      have o8 := own_base (base' := w.heap.size + 1 + 1) o7 s6
      have B7 := K7.one.2.2.2
      clear K7 K5 cb cbd cb7 o7 hb7 hL i60' u60
      go_wp2_with fail
      have ow : DkOwn w7 (w.heap.size + 1 + 1) (.agg #[.slice (some ⟨g7, 0, none⟩) 64 64, .slice none 0 0, .bool d.gone]) ⟨cs', [], d.gone⟩ :=
        ⟨84, _, _, rfl, .inr rfl, by rw [hl64]; exact o8, ⟨rfl, .inl ⟨rfl, rfl⟩⟩⟩
      refine bodyPost_ret (v := .agg #[.slice (some ⟨g7, 0, none⟩) 64 64, .slice none 0 0, .bool d.gone]) (by simp [results, Try.f71, go_sem, y0, y1, y2]) rfl ?_
      rw [← HCS.out]
      refine ⟨some ⟨g7, 0, none⟩, 64, none, 0, by simp only [hl64, List.length_nil], ?_, bel_box B7 hle _ _ _⟩
      simp only [hl64, List.length_nil]
      exact (ow.box (R := w.heap.size + 1) (by omega) _ _ _).base (by omega)
    · have h0' : mask < 0 := by omega
      rw [crashD_no (fun x => h0 x.2)]
      clear hok hA hd h0
      go_enter Try.func71, Try.ntmps71
      go_wp2_with (go_at_call 88; refine hO.mono ?_; rintro r w2 ⟨rfl, hb2⟩; have K2 := K0.next hb2; obtain ⟨x0, x1, x2, y0, y1, y2, f0, f1, f2, _⟩ := id K2)
      exact bodyPost_ret (v := .agg #[.slice none 0 0, .slice none 0 0, .bool false]) (by simp [results, Try.f71, go_sem, y0, y1, y2]) rfl (DPost.mk (d := dk0) (dk0_own _ _) (bel_box K2.one.2.2.2 hle _ _ _))
  · have hO := okPost_no hok (impl_ok A B c e d _ hd (hA.below K0.one.2.2.2))
    rw [crashD_no (fun x => hok x.1)]
    clear hok hA hd
    go_enter Try.func71, Try.ntmps71
    go_wp2_with (go_at_call 88; refine hO.mono ?_; rintro r w2 ⟨rfl, hb2⟩; have K2 := K0.next hb2; obtain ⟨x0, x1, x2, y0, y1, y2, f0, f1, f2, _⟩ := id K2)
    exact bodyPost_ret (v := .agg #[.slice none 0 0, .slice none 0 0, .bool false]) (by simp [results, Try.f71, go_sem, y0, y1, y2]) rfl (DPost.mk (d := dk0) (dk0_own _ _) (bel_box K2.one.2.2.2 hle _ _ _))
end Go.Proofs.Ytndckncoipkhaaa

namespace Go.Proofs.Ytndckncoipkhaaa
open Go.RowKit

set_option maxRecDepth 100000 in
set_option maxHeartbeats 4000000 in
theorem impl_flush (A B : Option Addr) (c e : Nat) (d : Dk) (w : World) (hd : Bulk d) (hA : DkAt w A B d) :
    Calls Try.prog 67 #[.agg #[.slice A d.cells.length c, .slice B d.waits.length e, .bool d.gone]] w (DPost (flushD d) w) := by
  have K0 := TwoB.new w (.slice A d.cells.length c) (.slice B d.waits.length e) (.bool d.gone)
  have hle : w.heap.size ≤ w.heap.size + 1 := by omega
  have hC := fun W hW => impl_crash A B c e d 1152921504606846975 (-1) W hd (hA.below (w' := W) hW) (by decide)
  have hD : crashD d 1152921504606846975 (-1) = flushD d := rfl
  rw [hD] at hC
  obtain ⟨D, hDD⟩ : ∃ D, D = flushD d := ⟨_, rfl⟩
  rw [← hDD] at hC ⊢
  have s0 := K0.2.2.2.2.2.2.2.2.2.2.1
  clear hD hDD hA hd
  go_enter Try.func67, Try.ntmps67
  go_wp2_with (go_at_call 71; refine (hC _ K0.one.2.2.2).mono ?_; rintro r w2 ⟨A5, c5, B5, e5, rfl, o5, hb2⟩; have K5 := K0.next hb2; obtain ⟨x0, x1, x2, y0, y1, y2, f0, f1, f2, _⟩ := id K5)
  exact bodyPost_ret (v := .agg #[.slice A5 D.cells.length c5, .slice B5 D.waits.length e5, .bool D.gone]) (by simp [results, Try.f67, go_sem, y0, y1, y2]) rfl (DPost.mk ((o5.box (R := w.heap.size + 1) (by omega) _ _ _).base (by omega)) (bel_box K5.one.2.2.2 hle _ _ _))
end Go.Proofs.Ytndckncoipkhaaa
