/-
  StripeJoin of the model, by each of the ways.
  Whether two columns of a row are there, with the lengths that they must have; a column may be gone.
  The program's ways to join columns, of which some may be gone.
  StripeJoin of the model, at what is no call.
  StripeJoin of the model, by one of the ways.
  StripeJoin of the model, by one of the ways.
  StripeJoin of the model, by one of the ways.
  StripeJoin of the model, at whatever it is called with.
-/
import Derived.Test.YtndckncoipkhaaaKA

namespace Go.Proofs.Ytndckncoipkhaaa.Cut
open Go.RowKit

def joinD (ss : List ByteArray) (size lost : Int) : ByteArray × Bool :=
  if ss.length = 3 ∧ (1 ≤ size ∧ size ≤ 128) ∧ (-1 ≤ lost ∧ lost ≤ 1) then
    (strOf (joinL (ss.getD 0 none8).data.toList (ss.getD 1 none8).data.toList (ss.getD 2 none8).data.toList size.toNat lost).1, (joinL (ss.getD 0 none8).data.toList (ss.getD 1 none8).data.toList (ss.getD 2 none8).data.toList size.toNat lost).2)
  else (none8, false)
def JoinPost (ss : List ByteArray) (size lost : Int) (w : World) (r : Ending) (w' : World) : Prop :=
  r = .returned (.tuple #[.string (joinD ss size lost).1, .bool (joinD ss size lost).2]) ∧ Below w.heap.size w w'
theorem joinD_no {ss : List ByteArray} {size lost : Int} (h : ¬ (ss.length = 3 ∧ (1 ≤ size ∧ size ≤ 128) ∧ (-1 ≤ lost ∧ lost ≤ 1))) : joinD ss size lost = (none8, false) := if_neg h
theorem joinD_yes (x0 x1 x2 : ByteArray) (n : Nat) (lost : Int) (h1 : 1 ≤ n) (h2 : n ≤ 128) (h3 : -1 ≤ lost ∧ lost ≤ 1) :
    joinD [x0, x1, x2] (n : Int) lost = (strOf (joinL x0.data.toList x1.data.toList x2.data.toList n lost).1, (joinL x0.data.toList x1.data.toList x2.data.toList n lost).2) := by
  unfold joinD
  rw [if_pos ⟨rfl, by omega, h3⟩]
  rfl
theorem JoinPost.no {ss : List ByteArray} {size lost : Int} {w w' : World} (h : joinD ss size lost = (none8, false)) (hb : Below w.heap.size w w') : JoinPost ss size lost w (.returned (.tuple #[.string ⟨#[]⟩, .bool false])) w' := by
  refine ⟨?_, hb⟩
  rw [h]
  rfl
theorem JoinPost.yes {ss : List ByteArray} {size lost : Int} {w w' : World} {t : ByteArray} (h : joinD ss size lost = (t, true)) (hb : Below w.heap.size w w') : JoinPost ss size lost w (.returned (.tuple #[.string t, .bool true])) w' := by
  refine ⟨?_, hb⟩
  rw [h]
theorem toL_len (x : ByteArray) : x.data.toList.length = x.size := by rw [Array.length_toList]; rfl
theorem strOf_app2 (x y : ByteArray) : strOf (x.data.toList ++ y.data.toList) = x ++ y := by
  apply bytes_inj
  rw [strOf_toList, ByteArray.data_append, Array.toList_append]
theorem strOf_appL (l : List UInt8) (y : ByteArray) : strOf (l ++ y.data.toList) = strOf l ++ y := by
  apply bytes_inj
  rw [strOf_toList, ByteArray.data_append, Array.toList_append, strOf_toList]
theorem strOf_appR (x : ByteArray) (l : List UInt8) : strOf (x.data.toList ++ l) = x ++ strOf l := by
  apply bytes_inj
  rw [strOf_toList, ByteArray.data_append, Array.toList_append, strOf_toList]
/-- The ways, column by column. -/
theorem way_a {x0 x1 x2 : ByteArray} {n : Nat} (h1 : 1 ≤ n) (h2 : n ≤ 128) (f0 : x0.size = half n) (f1 : x1.size = n - half n) : joinD [x0, x1, x2] (n : Int) (-1) = (x0 ++ x1, true) := by
  rw [joinD_yes _ _ _ _ _ h1 h2 (by omega)]
  unfold joinL fitA fitB
  rw [if_pos rfl, if_pos ⟨by rw [toL_len]; exact f0, by rw [toL_len]; exact f1⟩]
  show (strOf _, true) = _
  rw [strOf_app2]
theorem way_a_no {x0 x1 x2 : ByteArray} {n : Nat} (h1 : 1 ≤ n) (h2 : n ≤ 128) (f : ¬ (x0.size = half n ∧ x1.size = n - half n)) : joinD [x0, x1, x2] (n : Int) (-1) = (none8, false) := by
  rw [joinD_yes _ _ _ _ _ h1 h2 (by omega)]
  unfold joinL fitA fitB
  rw [if_pos rfl, if_neg (by rw [toL_len, toL_len]; exact f)]
  rfl
theorem way_b {x0 x1 x2 : ByteArray} {n : Nat} (h1 : 1 ≤ n) (h2 : n ≤ 128) (f1 : x1.size = n - half n) (f2 : x2.size = half n) : joinD [x0, x1, x2] (n : Int) 0 = (strOf (mixL x2.data.toList x1.data.toList (half n)) ++ x1, true) := by
  rw [joinD_yes _ _ _ _ _ h1 h2 (by omega)]
  unfold joinL fitA fitB
  rw [if_neg (by decide), if_pos rfl, if_pos ⟨by rw [toL_len]; exact f1, by rw [toL_len]; exact f2⟩]
  show (strOf _, true) = _
  rw [strOf_appL]
theorem way_b_no {x0 x1 x2 : ByteArray} {n : Nat} (h1 : 1 ≤ n) (h2 : n ≤ 128) (f : ¬ (x1.size = n - half n ∧ x2.size = half n)) : joinD [x0, x1, x2] (n : Int) 0 = (none8, false) := by
  rw [joinD_yes _ _ _ _ _ h1 h2 (by omega)]
  unfold joinL fitA fitB
  rw [if_neg (by decide), if_pos rfl, if_neg (by rw [toL_len, toL_len]; exact f)]
  rfl
theorem way_c {x0 x1 x2 : ByteArray} {n : Nat} (h1 : 1 ≤ n) (h2 : n ≤ 128) (f0 : x0.size = half n) (f2 : x2.size = half n) : joinD [x0, x1, x2] (n : Int) 1 = (x0 ++ strOf (mixL x2.data.toList x0.data.toList (n - half n)), true) := by
  rw [joinD_yes _ _ _ _ _ h1 h2 (by omega)]
  unfold joinL fitA
  rw [if_neg (by decide), if_neg (by decide), if_pos ⟨by rw [toL_len]; exact f0, by rw [toL_len]; exact f2⟩]
  show (strOf _, true) = _
  rw [strOf_appR]
theorem way_c_no {x0 x1 x2 : ByteArray} {n : Nat} (h1 : 1 ≤ n) (h2 : n ≤ 128) (f : ¬ (x0.size = half n ∧ x2.size = half n)) : joinD [x0, x1, x2] (n : Int) 1 = (none8, false) := by
  rw [joinD_yes _ _ _ _ _ h1 h2 (by omega)]
  unfold joinL fitA
  rw [if_neg (by decide), if_neg (by decide), if_neg (by rw [toL_len, toL_len]; exact f)]
  rfl
/-- Three texts that lie somewhere. -/
def Three (w : World) (b off : Nat) (x0 x1 x2 : ByteArray) : Prop := b < w.heap.size ∧ w.cell? ⟨b, off, none⟩ = some (.string x0) ∧ w.cell? ⟨b, off + 1, none⟩ = some (.string x1) ∧ w.cell? ⟨b, off + 2, none⟩ = some (.string x2)
theorem Three.of {w : World} {A : Option Addr} {x0 x1 x2 : ByteArray} (h : Lies w A (strCells [x0, x1, x2])) : ∃ b off, A = some ⟨b, off, none⟩ ∧ Three w b off x0 x1 x2 := by
  obtain ⟨b, off, e, hlt, hc⟩ := h (by simp [strCells])
  exact ⟨b, off, e, hlt, hc 0 _ rfl, hc 1 _ rfl, hc 2 _ rfl⟩
theorem Three.below {w w' : World} {b off : Nat} {x0 x1 x2 : ByteArray} (h : Three w b off x0 x1 x2) (hb : Below w.heap.size w w') : Three w' b off x0 x1 x2 :=
  ⟨Nat.lt_of_lt_of_le h.1 hb.size, (hb.cell (p := ⟨b, off, none⟩) h.1).trans h.2.1, (hb.cell (p := ⟨b, off + 1, none⟩) h.1).trans h.2.2.1, (hb.cell (p := ⟨b, off + 2, none⟩) h.1).trans h.2.2.2⟩

/-- The three cells alone. -/
def ThreeC (b off : Nat) (x0 x1 x2 : ByteArray) (w : World) : Prop := w.cell? ⟨b, off, none⟩ = some (.string x0) ∧ w.cell? ⟨b, off + 1, none⟩ = some (.string x1) ∧ w.cell? ⟨b, off + 2, none⟩ = some (.string x2)
theorem Three.cells {w : World} {b off : Nat} {x0 x1 x2 : ByteArray} (h : Three w b off x0 x1 x2) : ThreeC b off x0 x1 x2 w := h.2
end Go.Proofs.Ytndckncoipkhaaa.Cut

namespace Go.Proofs.Ytndckncoipkhaaa.Cut
open Go.RowKit

abbrev rowG (x0 x1 x2 : ByteArray) (g0 g1 g2 : Bool) : Array Value := #[.string x0, .bool g0, .string x1, .bool g1, .string x2, .bool g2]
def RowG (B : Nat) (x0 x1 x2 : ByteArray) (g0 g1 g2 : Bool) (w : World) : Prop :=
  w.cell? ⟨B, 0, none⟩ = some (.string x0) ∧ w.cell? ⟨B, 1, none⟩ = some (.bool g0) ∧ w.cell? ⟨B, 2, none⟩ = some (.string x1) ∧ w.cell? ⟨B, 3, none⟩ = some (.bool g1) ∧ w.cell? ⟨B, 4, none⟩ = some (.string x2) ∧ w.cell? ⟨B, 5, none⟩ = some (.bool g2)
theorem RowG.new (w : World) (x0 x1 x2 : ByteArray) (g0 g1 g2 : Bool) (t : TypeId) : RowG w.heap.size x0 x1 x2 g0 g1 g2 (w.alloc (.cells (rowG x0 x1 x2 g0 g1 g2) t)) := by
  refine ⟨?_, ?_, ?_, ?_, ?_, ?_⟩ <;> (rw [World.cell?_alloc_mark]; rfl)
theorem RowG.below {w w' : World} {B : Nat} {x0 x1 x2 : ByteArray} {g0 g1 g2 : Bool} (h : RowG B x0 x1 x2 g0 g1 g2 w) (hlt : B < w.heap.size) (hb : Below w.heap.size w w') : RowG B x0 x1 x2 g0 g1 g2 w' := by
  obtain ⟨a, b, c, d, e, f⟩ := h
  exact ⟨(hb.cell (p := ⟨B, 0, none⟩) hlt).trans a, (hb.cell (p := ⟨B, 1, none⟩) hlt).trans b, (hb.cell (p := ⟨B, 2, none⟩) hlt).trans c, (hb.cell (p := ⟨B, 3, none⟩) hlt).trans d, (hb.cell (p := ⟨B, 4, none⟩) hlt).trans e, (hb.cell (p := ⟨B, 5, none⟩) hlt).trans f⟩
/-- Two numbers in a row. -/
def TwoN (g : Nat) (i j : Int) (w : World) : Prop := w.cell? ⟨g, 0, none⟩ = some (.int .i64 i) ∧ w.cell? ⟨g, 1, none⟩ = some (.int .i64 j)
theorem TwoN.new (w : World) (i j : Int) (t : TypeId) : TwoN w.heap.size i j (w.alloc (.cells #[.int .i64 i, .int .i64 j] t)) := by
  refine ⟨?_, ?_⟩ <;> (rw [World.cell?_alloc_mark]; rfl)
theorem TwoN.below {w w' : World} {g : Nat} {i j : Int} (h : TwoN g i j w) (hlt : g < w.heap.size) (hb : Below w.heap.size w w') : TwoN g i j w' :=
  ⟨(hb.cell (p := ⟨g, 0, none⟩) hlt).trans h.1, (hb.cell (p := ⟨g, 1, none⟩) hlt).trans h.2⟩
/-- A column is there, with the length. -/
def Has (x : ByteArray) (g : Bool) (a : Nat) : Prop := g = true ∧ x.size = a
instance (x : ByteArray) (g : Bool) (a : Nat) : Decidable (Has x g a) := by unfold Has; infer_instance
def FitR (x y : ByteArray) (p q : Bool) (a b : Nat) (k : Nat) : Prop := k = 0 ∨ (k = 1 ∧ Has x p a) ∨ (k = 2 ∧ Has x p a ∧ Has y q b)
def FitPost (x y : ByteArray) (p q : Bool) (a b : Nat) (w : World) (r : Ending) (w' : World) : Prop := r = .returned (.bool (decide (Has x p a ∧ Has y q b))) ∧ Below w.heap.size w w'
theorem FitPost.no {x y : ByteArray} {p q : Bool} {a b : Nat} {w w' : World} (h : ¬ (Has x p a ∧ Has y q b)) (hb : Below w.heap.size w w') : FitPost x y p q a b w (.returned (.bool false)) w' := ⟨by rw [decide_eq_false h], hb⟩
theorem FitPost.yes {x y : ByteArray} {p q : Bool} {a b : Nat} {w w' : World} (h : Has x p a ∧ Has y q b) (hb : Below w.heap.size w w') : FitPost x y p q a b w (.returned (.bool true)) w' := ⟨by rw [decide_eq_true h], hb⟩
set_option maxRecDepth 100000 in
set_option maxHeartbeats 4000000 in
theorem fitg_01 (x0 x1 x2 : ByteArray) (g0 g1 g2 : Bool) (n g : Nat) (w : World) (hn : n ≤ 128) (hs : x0.size ≤ maxLen ∧ x1.size ≤ maxLen ∧ x2.size ≤ maxLen) (hg : g < w.heap.size) (hN : TwoN g 0 1 w) :
    Calls Try.prog 136 #[.agg (rowG x0 x1 x2 g0 g1 g2), .int .i64 (n : Int), .slice (some ⟨g, 0, none⟩) 2 2] w (FitPost x0 x1 g0 g1 (colN 0 n) (colN 1 n) w) := by
  obtain ⟨s0, s1, s2⟩ := hs
  unfold maxLen at s0 s1 s2
  have bl : Below w.heap.size w (w.alloc (.cells (rowG x0 x1 x2 g0 g1 g2) 108)) := bel_new (Below.refl _ _) _
  have hN1 := hN.below hg bl
  have hR1 := RowG.new w x0 x1 x2 g0 g1 g2 108
  have hCa := fun w => col_size 0 n w (by omega)
  have hCb := fun w => col_size 1 n w (by omega)
  obtain ⟨a, ha⟩ : ∃ a, a = colN 0 n := ⟨_, rfl⟩
  obtain ⟨b, hb⟩ : ∃ a, a = colN 1 n := ⟨_, rfl⟩
  rw [← ha] at hCa
  rw [← hb] at hCb
  rw [← ha, ← hb]
  clear ha hb hN hg
  unfold rowG at bl hN1 hR1
  unfold rowG
  go_enter Try.func136, Try.ntmps136
  go_wp2_with fail
  go_loopw [11] (fun i wr => ∃ k : Nat, k ≤ 2 ∧ i = .int .i64 (k : Int) ∧ FitR x0 x1 g0 g1 a b k ∧ TwoN g 0 1 wr ∧ RowG w.heap.size x0 x1 x2 g0 g1 g2 wr ∧ Below w.heap.size w wr) (fun i _ => 2 - (intOf i).toNat)
  case atStart => exact ⟨0, by omega, rfl, .inl rfl, hN1, hR1, bl⟩
  case round =>
    clear hN1 hR1 bl
    obtain ⟨k, hk, rfl, hfit, h2, hr, hbw⟩ := hrel
    rcases hfit with rfl | ⟨rfl, hfx⟩ | ⟨rfl, hfx, hfy⟩
    · clear hk
      obtain ⟨z0, z1⟩ := id h2
      obtain ⟨c0, c1, c2, c3, c4, c5⟩ := id hr
      cases g0
      · clear hCa hCb
        go_wp2_with fail
        go_quiet (fail)
        go_wp2_with fail
        go_ret
        exact FitPost.no (fun h => by cases h.1.1) (below_drewN hbw _)
      · by_cases hf : x0.size = a
        · have hq : ((x0.size : Int) != (a : Int)) = false := by simp; omega
          have HF := Lib.hid hf
          clear hf
          go_wp2_with fail
          go_quiet ((go_at_call 116; exact Calls.quiet_of_same (hCa _)))
          go_wp2_with fail
          go_roundw
          case rel => exact ⟨1, by omega, by go_num, .inr (.inl ⟨rfl, rfl, HF.out⟩), h2, hr, below_drewN hbw _⟩
          case measure => simp [intOf]
        · have hq : ((x0.size : Int) != (a : Int)) = true := by simp; omega
          have HF := Lib.hid hf
          clear hf
          go_wp2_with fail
          go_quiet ((go_at_call 116; exact Calls.quiet_of_same (hCa _)))
          go_wp2_with fail
          go_ret
          exact FitPost.no (fun h => HF.out h.1.2) (below_drewN hbw _)
    · have HX := Lib.hid hfx
      clear hfx hk
      obtain ⟨z0, z1⟩ := id h2
      obtain ⟨c0, c1, c2, c3, c4, c5⟩ := id hr
      cases g1
      · clear hCa hCb
        go_wp2_with fail
        go_quiet (fail)
        go_wp2_with fail
        go_ret
        exact FitPost.no (fun h => by cases h.2.1) (below_drewN hbw _)
      · by_cases hf : x1.size = b
        · have hq : ((x1.size : Int) != (b : Int)) = false := by simp; omega
          have HF := Lib.hid hf
          clear hf
          go_wp2_with fail
          go_quiet ((go_at_call 116; exact Calls.quiet_of_same (hCb _)))
          go_wp2_with fail
          go_roundw
          case rel => exact ⟨2, by omega, by go_num, .inr (.inr ⟨rfl, HX.out, rfl, HF.out⟩), h2, hr, below_drewN hbw _⟩
          case measure => simp [intOf]
        · have hq : ((x1.size : Int) != (b : Int)) = true := by simp; omega
          have HF := Lib.hid hf
          clear hf
          go_wp2_with fail
          go_quiet ((go_at_call 116; exact Calls.quiet_of_same (hCb _)))
          go_wp2_with fail
          go_ret
          exact FitPost.no (fun h => HF.out h.2.2) (below_drewN hbw _)
    · have HX := Lib.hid hfx
      have HY := Lib.hid hfy
      clear hfx hfy hk
      go_wp2_with fail
      go_ret
      exact FitPost.yes ⟨HX.out, HY.out⟩ hbw
set_option maxRecDepth 100000 in
set_option maxHeartbeats 4000000 in
theorem fitg_12 (x0 x1 x2 : ByteArray) (g0 g1 g2 : Bool) (n g : Nat) (w : World) (hn : n ≤ 128) (hs : x0.size ≤ maxLen ∧ x1.size ≤ maxLen ∧ x2.size ≤ maxLen) (hg : g < w.heap.size) (hN : TwoN g 1 2 w) :
    Calls Try.prog 136 #[.agg (rowG x0 x1 x2 g0 g1 g2), .int .i64 (n : Int), .slice (some ⟨g, 0, none⟩) 2 2] w (FitPost x1 x2 g1 g2 (colN 1 n) (colN 2 n) w) := by
  obtain ⟨s0, s1, s2⟩ := hs
  unfold maxLen at s0 s1 s2
  have bl : Below w.heap.size w (w.alloc (.cells (rowG x0 x1 x2 g0 g1 g2) 108)) := bel_new (Below.refl _ _) _
  have hN1 := hN.below hg bl
  have hR1 := RowG.new w x0 x1 x2 g0 g1 g2 108
  have hCa := fun w => col_size 1 n w (by omega)
  have hCb := fun w => col_size 2 n w (by omega)
  obtain ⟨a, ha⟩ : ∃ a, a = colN 1 n := ⟨_, rfl⟩
  obtain ⟨b, hb⟩ : ∃ a, a = colN 2 n := ⟨_, rfl⟩
  rw [← ha] at hCa
  rw [← hb] at hCb
  rw [← ha, ← hb]
  clear ha hb hN hg
  unfold rowG at bl hN1 hR1
  unfold rowG
  go_enter Try.func136, Try.ntmps136
  go_wp2_with fail
  go_loopw [11] (fun i wr => ∃ k : Nat, k ≤ 2 ∧ i = .int .i64 (k : Int) ∧ FitR x1 x2 g1 g2 a b k ∧ TwoN g 1 2 wr ∧ RowG w.heap.size x0 x1 x2 g0 g1 g2 wr ∧ Below w.heap.size w wr) (fun i _ => 2 - (intOf i).toNat)
  case atStart => exact ⟨0, by omega, rfl, .inl rfl, hN1, hR1, bl⟩
  case round =>
    clear hN1 hR1 bl
    obtain ⟨k, hk, rfl, hfit, h2, hr, hbw⟩ := hrel
    rcases hfit with rfl | ⟨rfl, hfx⟩ | ⟨rfl, hfx, hfy⟩
    · clear hk
      obtain ⟨z0, z1⟩ := id h2
      obtain ⟨c0, c1, c2, c3, c4, c5⟩ := id hr
      cases g1
      · clear hCa hCb
        go_wp2_with fail
        go_quiet (fail)
        go_wp2_with fail
        go_ret
        exact FitPost.no (fun h => by cases h.1.1) (below_drewN hbw _)
      · by_cases hf : x1.size = a
        · have hq : ((x1.size : Int) != (a : Int)) = false := by simp; omega
          have HF := Lib.hid hf
          clear hf
          go_wp2_with fail
          go_quiet ((go_at_call 116; exact Calls.quiet_of_same (hCa _)))
          go_wp2_with fail
          go_roundw
          case rel => exact ⟨1, by omega, by go_num, .inr (.inl ⟨rfl, rfl, HF.out⟩), h2, hr, below_drewN hbw _⟩
          case measure => simp [intOf]
        · have hq : ((x1.size : Int) != (a : Int)) = true := by simp; omega
          have HF := Lib.hid hf
          clear hf
          go_wp2_with fail
          go_quiet ((go_at_call 116; exact Calls.quiet_of_same (hCa _)))
          go_wp2_with fail
          go_ret
          exact FitPost.no (fun h => HF.out h.1.2) (below_drewN hbw _)
    · have HX := Lib.hid hfx
      clear hfx hk
      obtain ⟨z0, z1⟩ := id h2
      obtain ⟨c0, c1, c2, c3, c4, c5⟩ := id hr
      cases g2
      · clear hCa hCb
        go_wp2_with fail
        go_quiet (fail)
        go_wp2_with fail
        go_ret
        exact FitPost.no (fun h => by cases h.2.1) (below_drewN hbw _)
      · by_cases hf : x2.size = b
        · have hq : ((x2.size : Int) != (b : Int)) = false := by simp; omega
          have HF := Lib.hid hf
          clear hf
          go_wp2_with fail
          go_quiet ((go_at_call 116; exact Calls.quiet_of_same (hCb _)))
          go_wp2_with fail
          go_roundw
          case rel => exact ⟨2, by omega, by go_num, .inr (.inr ⟨rfl, HX.out, rfl, HF.out⟩), h2, hr, below_drewN hbw _⟩
          case measure => simp [intOf]
        · have hq : ((x2.size : Int) != (b : Int)) = true := by simp; omega
          have HF := Lib.hid hf
          clear hf
          go_wp2_with fail
          go_quiet ((go_at_call 116; exact Calls.quiet_of_same (hCb _)))
          go_wp2_with fail
          go_ret
          exact FitPost.no (fun h => HF.out h.2.2) (below_drewN hbw _)
    · have HX := Lib.hid hfx
      have HY := Lib.hid hfy
      clear hfx hfy hk
      go_wp2_with fail
      go_ret
      exact FitPost.yes ⟨HX.out, HY.out⟩ hbw
set_option maxRecDepth 100000 in
set_option maxHeartbeats 4000000 in
theorem fitg_02 (x0 x1 x2 : ByteArray) (g0 g1 g2 : Bool) (n g : Nat) (w : World) (hn : n ≤ 128) (hs : x0.size ≤ maxLen ∧ x1.size ≤ maxLen ∧ x2.size ≤ maxLen) (hg : g < w.heap.size) (hN : TwoN g 0 2 w) :
    Calls Try.prog 136 #[.agg (rowG x0 x1 x2 g0 g1 g2), .int .i64 (n : Int), .slice (some ⟨g, 0, none⟩) 2 2] w (FitPost x0 x2 g0 g2 (colN 0 n) (colN 2 n) w) := by
  obtain ⟨s0, s1, s2⟩ := hs
  unfold maxLen at s0 s1 s2
  have bl : Below w.heap.size w (w.alloc (.cells (rowG x0 x1 x2 g0 g1 g2) 108)) := bel_new (Below.refl _ _) _
  have hN1 := hN.below hg bl
  have hR1 := RowG.new w x0 x1 x2 g0 g1 g2 108
  have hCa := fun w => col_size 0 n w (by omega)
  have hCb := fun w => col_size 2 n w (by omega)
  obtain ⟨a, ha⟩ : ∃ a, a = colN 0 n := ⟨_, rfl⟩
  obtain ⟨b, hb⟩ : ∃ a, a = colN 2 n := ⟨_, rfl⟩
  rw [← ha] at hCa
  rw [← hb] at hCb
  rw [← ha, ← hb]
  clear ha hb hN hg
  unfold rowG at bl hN1 hR1
  unfold rowG
  go_enter Try.func136, Try.ntmps136
  go_wp2_with fail
  go_loopw [11] (fun i wr => ∃ k : Nat, k ≤ 2 ∧ i = .int .i64 (k : Int) ∧ FitR x0 x2 g0 g2 a b k ∧ TwoN g 0 2 wr ∧ RowG w.heap.size x0 x1 x2 g0 g1 g2 wr ∧ Below w.heap.size w wr) (fun i _ => 2 - (intOf i).toNat)
  case atStart => exact ⟨0, by omega, rfl, .inl rfl, hN1, hR1, bl⟩
  case round =>
    clear hN1 hR1 bl
    obtain ⟨k, hk, rfl, hfit, h2, hr, hbw⟩ := hrel
    rcases hfit with rfl | ⟨rfl, hfx⟩ | ⟨rfl, hfx, hfy⟩
    · clear hk
      obtain ⟨z0, z1⟩ := id h2
      obtain ⟨c0, c1, c2, c3, c4, c5⟩ := id hr
      cases g0
      · clear hCa hCb
        go_wp2_with fail
        go_quiet (fail)
        go_wp2_with fail
        go_ret
        exact FitPost.no (fun h => by cases h.1.1) (below_drewN hbw _)
      · by_cases hf : x0.size = a
        · have hq : ((x0.size : Int) != (a : Int)) = false := by simp; omega
          have HF := Lib.hid hf
          clear hf
          go_wp2_with fail
          go_quiet ((go_at_call 116; exact Calls.quiet_of_same (hCa _)))
          go_wp2_with fail
          go_roundw
          case rel => exact ⟨1, by omega, by go_num, .inr (.inl ⟨rfl, rfl, HF.out⟩), h2, hr, below_drewN hbw _⟩
          case measure => simp [intOf]
        · have hq : ((x0.size : Int) != (a : Int)) = true := by simp; omega
          have HF := Lib.hid hf
          clear hf
          go_wp2_with fail
          go_quiet ((go_at_call 116; exact Calls.quiet_of_same (hCa _)))
          go_wp2_with fail
          go_ret
          exact FitPost.no (fun h => HF.out h.1.2) (below_drewN hbw _)
    · have HX := Lib.hid hfx
      clear hfx hk
      obtain ⟨z0, z1⟩ := id h2
      obtain ⟨c0, c1, c2, c3, c4, c5⟩ := id hr
      cases g2
      · clear hCa hCb
        go_wp2_with fail
        go_quiet (fail)
        go_wp2_with fail
        go_ret
        exact FitPost.no (fun h => by cases h.2.1) (below_drewN hbw _)
      · by_cases hf : x2.size = b
        · have hq : ((x2.size : Int) != (b : Int)) = false := by simp; omega
          have HF := Lib.hid hf
          clear hf
          go_wp2_with fail
          go_quiet ((go_at_call 116; exact Calls.quiet_of_same (hCb _)))
          go_wp2_with fail
          go_roundw
          case rel => exact ⟨2, by omega, by go_num, .inr (.inr ⟨rfl, HX.out, rfl, HF.out⟩), h2, hr, below_drewN hbw _⟩
          case measure => simp [intOf]
        · have hq : ((x2.size : Int) != (b : Int)) = true := by simp; omega
          have HF := Lib.hid hf
          clear hf
          go_wp2_with fail
          go_quiet ((go_at_call 116; exact Calls.quiet_of_same (hCb _)))
          go_wp2_with fail
          go_ret
          exact FitPost.no (fun h => HF.out h.2.2) (below_drewN hbw _)
    · have HX := Lib.hid hfx
      have HY := Lib.hid hfy
      clear hfx hfy hk
      go_wp2_with fail
      go_ret
      exact FitPost.yes ⟨HX.out, HY.out⟩ hbw
end Go.Proofs.Ytndckncoipkhaaa.Cut

namespace Go.Proofs.Ytndckncoipkhaaa.Cut
open Go.RowKit

/-- A column as a disk has it, and as it is read: one that is gone is read as a text that fits nothing. -/
structure Col (x : ByteArray) (g : Bool) (y : ByteArray) : Prop where
  yes : g = true → y = x
  no : g = false → y.size = 200
theorem Col.size {x y : ByteArray} {g : Bool} (h : Col x g y) {a : Nat} (ha : a ≤ 128) : y.size = a ↔ Has x g a := by
  cases g
  · have := h.no rfl
    constructor
    · intro e
      omega
    · intro e
      cases e.1
  · rw [h.yes rfl]
    exact ⟨fun e => ⟨rfl, e⟩, fun e => e.2⟩
theorem colN_0 (n : Nat) : colN 0 n = half n := rfl
theorem colN_2 (n : Nat) : colN 2 n = half n := rfl
theorem colN_1 (n : Nat) : colN 1 n = n - half n := by
  show n / 2 = _
  unfold half
  omega
/-- The row of a way, boxed, and the numbers that it asks of. -/
def rowW (w : World) (x0 x1 x2 : ByteArray) (g0 g1 g2 : Bool) (i j : Int) : World := (w.alloc (.cells #[.string x0, .bool g0, .string x1, .bool g1, .string x2, .bool g2] 108)).alloc (.cells #[.int .i64 i, .int .i64 j] 3)
theorem rowW_bel (w : World) (x0 x1 x2 : ByteArray) (g0 g1 g2 : Bool) (i j : Int) : Below w.heap.size w (rowW w x0 x1 x2 g0 g1 g2 i j) := bel_new (bel_new (Below.refl _ _) _) _
theorem rowW_two (w : World) (x0 x1 x2 : ByteArray) (g0 g1 g2 : Bool) (i j : Int) : TwoN (w.heap.size + 1) i j (rowW w x0 x1 x2 g0 g1 g2 i j) := by
  have h := TwoN.new (w.alloc (.cells #[.string x0, .bool g0, .string x1, .bool g1, .string x2, .bool g2] 108)) i j 3
  rw [World.size_alloc] at h
  exact h
theorem rowW_size (w : World) (x0 x1 x2 : ByteArray) (g0 g1 g2 : Bool) (i j : Int) : (rowW w x0 x1 x2 g0 g1 g2 i j).heap.size = w.heap.size + 2 := by
  unfold rowW
  rw [World.size_alloc, World.size_alloc]
theorem rowW_row (w : World) (x0 x1 x2 : ByteArray) (g0 g1 g2 : Bool) (i j : Int) : RowG w.heap.size x0 x1 x2 g0 g1 g2 (rowW w x0 x1 x2 g0 g1 g2 i j) :=
  (RowG.new w x0 x1 x2 g0 g1 g2 108).below (by rw [World.size_alloc]; omega) (bel_new (Below.refl _ _) _)
set_option maxRecDepth 100000 in
set_option maxHeartbeats 4000000 in
theorem impl_a (x0 x1 x2 y0 y1 y2 : ByteArray) (g0 g1 g2 : Bool) (k0 : Col x0 g0 y0) (k1 : Col x1 g1 y1) (k2 : Col x2 g2 y2) (n : Nat) (w : World) (h1 : 1 ≤ n) (h2 : n ≤ 128) (hs : x0.size ≤ maxLen ∧ x1.size ≤ maxLen ∧ x2.size ≤ maxLen) :
    Calls Try.prog 124 #[.agg #[.string x0, .bool g0, .string x1, .bool g1, .string x2, .bool g2], .int .i64 (n : Int)] w (JoinPost [y0, y1, y2] (n : Int) (-1) w) := by
  have hF := fitg_01 x0 x1 x2 g0 g1 g2 n (w.heap.size + 1) (rowW w x0 x1 x2 g0 g1 g2 0 1) h2 hs (by rw [rowW_size]; omega) (rowW_two w x0 x1 x2 g0 g1 g2 0 1)
  rw [colN_0, colN_1] at hF
  have hR := rowW_row w x0 x1 x2 g0 g1 g2 0 1
  have hB := rowW_bel w x0 x1 x2 g0 g1 g2 0 1
  have hz := rowW_size w x0 x1 x2 g0 g1 g2 0 1
  have hhl := half_le n
  have hhn : half n ≤ 64 := by unfold half; omega
  have hmh : n - half n ≤ half n := by unfold half; omega
  by_cases hf : Has x0 g0 (half n) ∧ Has x1 g1 (n - half n)
  · have hF2 : Calls Try.prog 136 #[.agg (rowG x0 x1 x2 g0 g1 g2), .int .i64 (n : Int), .slice (some ⟨w.heap.size + 1, 0, none⟩) 2 2] (rowW w x0 x1 x2 g0 g1 g2 0 1) fun r w' => r = .returned (.bool true) ∧ Below (rowW w x0 x1 x2 g0 g1 g2 0 1).heap.size (rowW w x0 x1 x2 g0 g1 g2 0 1) w' :=
      hF.mono fun r w' ⟨he, hb⟩ => ⟨by rw [he, decide_eq_true hf], hb⟩
    obtain rfl := (k0.yes hf.1.1).symm
    obtain rfl := (k1.yes hf.2.1).symm
    have hj := Lib.hid (way_a (x2 := y2) h1 h2 hf.1.2 hf.2.2)
    have HF := Lib.hid (And.intro hf.1.2 hf.2.2)
    obtain ⟨s0, s1, s2⟩ := hs
    unfold maxLen at s0 s1 s2
    unfold rowG at hF2
    have HZ := Lib.hid hz
    clear hF hf hz
    have hadd := fun w => run_string_add_sum (P := Try.prog) w x0 x1 (by have := HF.out; omega)
    obtain ⟨W, hW⟩ : ∃ W, W = rowW w x0 x1 x2 g0 g1 g2 0 1 := ⟨_, rfl⟩
    go_enter Try.func124, Try.ntmps124
    go_wp2_with (go_at_call 136; refine hF2.mono ?_; rintro r w3 ⟨rfl, hb3⟩; refine Hid.out ?_)
    refine Lib.hid ?_
    have hR3 := hR.below (by have := HZ.out; omega) hb3
    have B3 := bel_then hB hb3
    clear hR hB hF2 hb3 hW
    obtain ⟨c0, c1, c2, c3, c4, c5⟩ := hR3
    clear hhl hhn hmh
    go_wp2_with fail
    go_ret2
    exact JoinPost.yes hj.out B3
  · have hF2 : Calls Try.prog 136 #[.agg (rowG x0 x1 x2 g0 g1 g2), .int .i64 (n : Int), .slice (some ⟨w.heap.size + 1, 0, none⟩) 2 2] (rowW w x0 x1 x2 g0 g1 g2 0 1) fun r w' => r = .returned (.bool false) ∧ Below (rowW w x0 x1 x2 g0 g1 g2 0 1).heap.size (rowW w x0 x1 x2 g0 g1 g2 0 1) w' :=
      hF.mono fun r w' ⟨he, hb⟩ => ⟨by rw [he, decide_eq_false hf], hb⟩
    have hj := Lib.hid (way_a_no (x0 := y0) (x1 := y1) (x2 := y2) h1 h2 (fun h => hf ⟨(k0.size (by omega)).1 h.1, (k1.size (by omega)).1 h.2⟩))
    unfold rowG at hF2
    clear hF hf hs hR hz hhl hhn hmh
    unfold rowW at hF2 hB
    go_enter Try.func124, Try.ntmps124
    go_wp2_with (go_at_call 136; refine hF2.mono ?_; rintro r w3 ⟨rfl, hb3⟩)
    go_ret2
    exact JoinPost.no hj.out (bel_then hB hb3)
set_option maxRecDepth 100000 in
set_option maxHeartbeats 4000000 in
theorem impl_b (x0 x1 x2 y0 y1 y2 : ByteArray) (g0 g1 g2 : Bool) (k0 : Col x0 g0 y0) (k1 : Col x1 g1 y1) (k2 : Col x2 g2 y2) (n : Nat) (w : World) (h1 : 1 ≤ n) (h2 : n ≤ 128) (hs : x0.size ≤ maxLen ∧ x1.size ≤ maxLen ∧ x2.size ≤ maxLen) :
    Calls Try.prog 125 #[.agg #[.string x0, .bool g0, .string x1, .bool g1, .string x2, .bool g2], .int .i64 (n : Int)] w (JoinPost [y0, y1, y2] (n : Int) 0 w) := by
  have hF := fitg_12 x0 x1 x2 g0 g1 g2 n (w.heap.size + 1) (rowW w x0 x1 x2 g0 g1 g2 1 2) h2 hs (by rw [rowW_size]; omega) (rowW_two w x0 x1 x2 g0 g1 g2 1 2)
  rw [colN_1, colN_2] at hF
  have hR := rowW_row w x0 x1 x2 g0 g1 g2 1 2
  have hB := rowW_bel w x0 x1 x2 g0 g1 g2 1 2
  have hz := rowW_size w x0 x1 x2 g0 g1 g2 1 2
  have hhl := half_le n
  have hhn : half n ≤ 64 := by unfold half; omega
  have hmh : n - half n ≤ half n := by unfold half; omega
  by_cases hf : Has x1 g1 (n - half n) ∧ Has x2 g2 (half n)
  · have hF2 : Calls Try.prog 136 #[.agg (rowG x0 x1 x2 g0 g1 g2), .int .i64 (n : Int), .slice (some ⟨w.heap.size + 1, 0, none⟩) 2 2] (rowW w x0 x1 x2 g0 g1 g2 1 2) fun r w' => r = .returned (.bool true) ∧ Below (rowW w x0 x1 x2 g0 g1 g2 1 2).heap.size (rowW w x0 x1 x2 g0 g1 g2 1 2) w' :=
      hF.mono fun r w' ⟨he, hb⟩ => ⟨by rw [he, decide_eq_true hf], hb⟩
    obtain rfl := (k1.yes hf.1.1).symm
    obtain rfl := (k2.yes hf.2.1).symm
    have hj := Lib.hid (way_b (x0 := y0) h1 h2 hf.1.2 hf.2.2)
    have HF := Lib.hid (And.intro hf.1.2 hf.2.2)
    obtain ⟨s0, s1, s2⟩ := hs
    unfold maxLen at s0 s1 s2
    unfold rowG at hF2
    have HZ := Lib.hid hz
    clear hF hf hz
    have hM := fun w => impl_mixed x2 x1 (half n) w (by omega) (by unfold maxLen; omega) (by unfold maxLen; omega)
    have hC := fun w => col_size 0 n w (by omega)
    rw [colN_0] at hC
    have hadd := fun w => run_string_add_sum (P := Try.prog) w (strOf (mixL x2.data.toList x1.data.toList (half n))) x1 (by have := HF.out; rw [strOf_size, mixL_len]; omega)
    obtain ⟨K, hK⟩ : ∃ K, K = half n := ⟨_, rfl⟩
    simp only [← hK] at hM hC hadd hj
    obtain ⟨W, hW⟩ : ∃ W, W = rowW w x0 x1 x2 g0 g1 g2 1 2 := ⟨_, rfl⟩
    go_enter Try.func125, Try.ntmps125
    go_wp2_with (go_at_call 136; refine hF2.mono ?_; rintro r w3 ⟨rfl, hb3⟩; refine Hid.out ?_)
    refine Lib.hid ?_
    have hR3 := hR.below (by have := HZ.out; omega) hb3
    have B3 := bel_then hB hb3
    clear hR hB hF2 hb3 hW
    obtain ⟨c0, c1, c2, c3, c4, c5⟩ := hR3
    clear hK hhl hhn hmh
    go_wp2_with fail
    first
      | go_region_with (first
        | (go_at_call 116; refine (hC _).mono ?_; rintro r w4 ⟨rfl, rfl⟩)
        | (go_at_call 118; refine (hM _).mono ?_; rintro r w5 ⟨rfl, hb5⟩))
      | go_outline
    all_goals go_wp2_with fail
    all_goals go_ret2
    all_goals exact JoinPost.yes hj.out (bel_then B3.drew hb5)
  · have hF2 : Calls Try.prog 136 #[.agg (rowG x0 x1 x2 g0 g1 g2), .int .i64 (n : Int), .slice (some ⟨w.heap.size + 1, 0, none⟩) 2 2] (rowW w x0 x1 x2 g0 g1 g2 1 2) fun r w' => r = .returned (.bool false) ∧ Below (rowW w x0 x1 x2 g0 g1 g2 1 2).heap.size (rowW w x0 x1 x2 g0 g1 g2 1 2) w' :=
      hF.mono fun r w' ⟨he, hb⟩ => ⟨by rw [he, decide_eq_false hf], hb⟩
    have hj := Lib.hid (way_b_no (x0 := y0) (x1 := y1) (x2 := y2) h1 h2 (fun h => hf ⟨(k1.size (by omega)).1 h.1, (k2.size (by omega)).1 h.2⟩))
    unfold rowG at hF2
    clear hF hf hs hR hz hhl hhn hmh
    unfold rowW at hF2 hB
    go_enter Try.func125, Try.ntmps125
    go_wp2_with (go_at_call 136; refine hF2.mono ?_; rintro r w3 ⟨rfl, hb3⟩)
    go_ret2
    exact JoinPost.no hj.out (bel_then hB hb3)
set_option maxRecDepth 100000 in
set_option maxHeartbeats 4000000 in
theorem impl_c (x0 x1 x2 y0 y1 y2 : ByteArray) (g0 g1 g2 : Bool) (k0 : Col x0 g0 y0) (k1 : Col x1 g1 y1) (k2 : Col x2 g2 y2) (n : Nat) (w : World) (h1 : 1 ≤ n) (h2 : n ≤ 128) (hs : x0.size ≤ maxLen ∧ x1.size ≤ maxLen ∧ x2.size ≤ maxLen) :
    Calls Try.prog 126 #[.agg #[.string x0, .bool g0, .string x1, .bool g1, .string x2, .bool g2], .int .i64 (n : Int)] w (JoinPost [y0, y1, y2] (n : Int) 1 w) := by
  have hF := fitg_02 x0 x1 x2 g0 g1 g2 n (w.heap.size + 1) (rowW w x0 x1 x2 g0 g1 g2 0 2) h2 hs (by rw [rowW_size]; omega) (rowW_two w x0 x1 x2 g0 g1 g2 0 2)
  rw [colN_0, colN_2] at hF
  have hR := rowW_row w x0 x1 x2 g0 g1 g2 0 2
  have hB := rowW_bel w x0 x1 x2 g0 g1 g2 0 2
  have hz := rowW_size w x0 x1 x2 g0 g1 g2 0 2
  have hhl := half_le n
  have hhn : half n ≤ 64 := by unfold half; omega
  have hmh : n - half n ≤ half n := by unfold half; omega
  by_cases hf : Has x0 g0 (half n) ∧ Has x2 g2 (half n)
  · have hF2 : Calls Try.prog 136 #[.agg (rowG x0 x1 x2 g0 g1 g2), .int .i64 (n : Int), .slice (some ⟨w.heap.size + 1, 0, none⟩) 2 2] (rowW w x0 x1 x2 g0 g1 g2 0 2) fun r w' => r = .returned (.bool true) ∧ Below (rowW w x0 x1 x2 g0 g1 g2 0 2).heap.size (rowW w x0 x1 x2 g0 g1 g2 0 2) w' :=
      hF.mono fun r w' ⟨he, hb⟩ => ⟨by rw [he, decide_eq_true hf], hb⟩
    obtain rfl := (k0.yes hf.1.1).symm
    obtain rfl := (k2.yes hf.2.1).symm
    have hj := Lib.hid (way_c (x1 := y1) h1 h2 hf.1.2 hf.2.2)
    have HF := Lib.hid (And.intro hf.1.2 hf.2.2)
    obtain ⟨s0, s1, s2⟩ := hs
    unfold maxLen at s0 s1 s2
    unfold rowG at hF2
    have HZ := Lib.hid hz
    clear hF hf hz
    have hM := fun w => impl_mixed x2 x0 (n - half n) w (by omega) (by unfold maxLen; omega) (by unfold maxLen; omega)
    have hC := fun w => col_size 1 n w (by omega)
    rw [colN_1] at hC
    have hadd := fun w => run_string_add_sum (P := Try.prog) w x0 (strOf (mixL x2.data.toList x0.data.toList (n - half n))) (by have := HF.out; rw [strOf_size, mixL_len]; omega)
    obtain ⟨K, hK⟩ : ∃ K, K = n - half n := ⟨_, rfl⟩
    simp only [← hK] at hM hC hadd hj
    obtain ⟨W, hW⟩ : ∃ W, W = rowW w x0 x1 x2 g0 g1 g2 0 2 := ⟨_, rfl⟩
    go_enter Try.func126, Try.ntmps126
    go_wp2_with (go_at_call 136; refine hF2.mono ?_; rintro r w3 ⟨rfl, hb3⟩; refine Hid.out ?_)
    refine Lib.hid ?_
    have hR3 := hR.below (by have := HZ.out; omega) hb3
    have B3 := bel_then hB hb3
    clear hR hB hF2 hb3 hW
    obtain ⟨c0, c1, c2, c3, c4, c5⟩ := hR3
    clear hK hhl hhn hmh
    go_wp2_with fail
    first
      | go_region_with (first
        | (go_at_call 116; refine (hC _).mono ?_; rintro r w4 ⟨rfl, rfl⟩)
        | (go_at_call 118; refine (hM _).mono ?_; rintro r w5 ⟨rfl, hb5⟩))
      | go_outline
    all_goals go_wp2_with fail
    all_goals go_ret2
    all_goals exact JoinPost.yes hj.out (bel_then B3.drew hb5)
  · have hF2 : Calls Try.prog 136 #[.agg (rowG x0 x1 x2 g0 g1 g2), .int .i64 (n : Int), .slice (some ⟨w.heap.size + 1, 0, none⟩) 2 2] (rowW w x0 x1 x2 g0 g1 g2 0 2) fun r w' => r = .returned (.bool false) ∧ Below (rowW w x0 x1 x2 g0 g1 g2 0 2).heap.size (rowW w x0 x1 x2 g0 g1 g2 0 2) w' :=
      hF.mono fun r w' ⟨he, hb⟩ => ⟨by rw [he, decide_eq_false hf], hb⟩
    have hj := Lib.hid (way_c_no (x0 := y0) (x1 := y1) (x2 := y2) h1 h2 (fun h => hf ⟨(k0.size (by omega)).1 h.1, (k2.size (by omega)).1 h.2⟩))
    unfold rowG at hF2
    clear hF hf hs hR hz hhl hhn hmh
    unfold rowW at hF2 hB
    go_enter Try.func126, Try.ntmps126
    go_wp2_with (go_at_call 136; refine hF2.mono ?_; rintro r w3 ⟨rfl, hb3⟩)
    go_ret2
    exact JoinPost.no hj.out (bel_then hB hb3)
end Go.Proofs.Ytndckncoipkhaaa.Cut

namespace Go.Proofs.Ytndckncoipkhaaa.Cut
open Go.RowKit

set_option maxRecDepth 100000 in
set_option maxHeartbeats 4000000 in
theorem spec_join_bad (A : Option Addr) (c : Nat) (ss : List ByteArray) (size lost : Int) (w : World) (hn : ss.length ≤ maxLen) (h : ¬ (ss.length = 3 ∧ (1 ≤ size ∧ size ≤ 128) ∧ (-1 ≤ lost ∧ lost ≤ 1))) :
    Calls Try.prog 95 #[.slice A ss.length c, .int .i64 size, .int .i64 lost] w (JoinPost ss size lost w) := by
  have hj := Lib.hid (joinD_no h)
  unfold maxLen at hn
  by_cases h1 : ss.length = 3
  · have hl1 : ((ss.length : Int) != 3) = false := by rw [h1]; rfl
    have hl2 : (ss.length != 3) = false := by rw [h1]; rfl
    by_cases h2 : 1 ≤ size ∧ size ≤ 128
    · have h3 : ¬ (-1 ≤ lost ∧ lost ≤ 1) := fun h3 => h ⟨h1, h2, h3⟩
      have e1 := inB_yes h2.1 h2.2
      have e2 := inB_no h3
      clear h h1 h2 h3
      go_enter Try.func95, Try.ntmps95
      go_wp2_with (first
        | (go_at_call 72; refine (in_any _ _ _ _).mono ?_; rintro r w1 ⟨rfl, rfl⟩))
      go_ret2
      exact JoinPost.no hj.out (Below.refl _ _)
    · have e1 := inB_no h2
      clear h h1 h2
      go_enter Try.func95, Try.ntmps95
      go_wp2_with (go_at_call 72; refine (in_any _ _ _ _).mono ?_; rintro r w1 ⟨rfl, rfl⟩)
      go_ret2
      exact JoinPost.no hj.out (Below.refl _ _)
  · have hl1 : ((ss.length : Int) != 3) = true := by simp; omega
    have hl2 : (ss.length != 3) = true := by simp; omega
    clear h h1
    go_enter Try.func95, Try.ntmps95
    go_wp2_with fail
    go_ret2
    exact JoinPost.no hj.out (Below.refl _ _)
end Go.Proofs.Ytndckncoipkhaaa.Cut

namespace Go.Proofs.Ytndckncoipkhaaa.Cut
open Go.RowKit

set_option maxRecDepth 100000 in
set_option maxHeartbeats 4000000 in
theorem spec_a (b off c : Nat) (x0 x1 x2 : ByteArray) (n : Nat) (w : World) (h1 : 1 ≤ n) (h2 : n ≤ 128) (hs : x0.size ≤ maxLen ∧ x1.size ≤ maxLen ∧ x2.size ≤ maxLen) (hA : Three w b off x0 x1 x2) :
    Calls Try.prog 95 #[.slice (some ⟨b, off, none⟩) 3 c, .int .i64 (n : Int), .int .i64 (-1)] w (JoinPost [x0, x1, x2] (n : Int) (-1) w) := by
  obtain ⟨s0, s1, s2⟩ := hs
  unfold maxLen at s0 s1 s2
  have hA2 := hA
  obtain ⟨hlt, k0, k1, k2⟩ := hA
  have hM : (n : Int) - ((half n : Nat) : Int) = ((n - half n : Nat) : Int) := by have := half_le n; omega
  have hH := fun w => half_is n w (by omega)
  have hhl := half_le n
  have hhn : half n ≤ 64 := by unfold half; omega
  have e1 := inB_yes (n := (n : Int)) (a := 1) (b := 128) (by omega) (by omega)
  have e2 := inB_yes (n := (-1)) (a := -1) (b := 1) (by omega) (by omega)
  have hw1 := IntWalk.i64_in ((n : Int) - ((half n : Nat) : Int)) (by omega)
  have hMb : (n - half n : Nat) ≤ 64 := by unfold half; omega
  have hwM : wrap64 ((n : Int) - ((half n : Nat) : Int)) = ((n - half n : Nat) : Int) := by simp only [wrap64]; omega
  obtain ⟨H, hHe⟩ : ∃ H, H = half n := ⟨_, rfl⟩
  obtain ⟨M, hMe⟩ : ∃ M, M = n - half n := ⟨_, rfl⟩
  by_cases fi : x0.size = half n
  · by_cases fj : x1.size = n - half n
    · have hj := Lib.hid (way_a (x2 := x2) h1 h2 fi fj)
      have q1 : ((x0.size : Int) == ((half n : Nat) : Int)) = true := beq_iff_eq.2 (by omega)
      have q2 : ((x1.size : Int) == ((n - half n : Nat) : Int)) = true := beq_iff_eq.2 (by omega)
      have hadd := fun w => run_string_add_sum (P := Try.prog) w x0 x1 (by omega)
      simp only [← hMe] at hM hH hw1 hwM q1 q2
      simp only [← hHe] at hM hH hw1 hwM q1 q2
      clear hHe hMe hMb hM hw1 fi fj h1 h2 hhl hhn hA2
      go_enter Try.func95, Try.ntmps95
      go_wp2_with (first
        | (go_at_call 72; refine (in_any _ _ _ _).mono ?_; rintro r w1 ⟨rfl, rfl⟩)
        | (go_at_call 91; refine (hH _).mono ?_; rintro r w3 ⟨rfl, rfl⟩))
      go_quiet (fail)
      go_wp2_with fail
      go_ret2
      exact JoinPost.yes hj.out (below_drewN (Below.refl _ _) _)
    · have hj := Lib.hid (way_a_no (x0 := x0) (x1 := x1) (x2 := x2) h1 h2 (fun h => fj h.2))
      have q1 : ((x0.size : Int) == ((half n : Nat) : Int)) = true := beq_iff_eq.2 (by omega)
      have q2 : ((x1.size : Int) == ((n - half n : Nat) : Int)) = false := beq_eq_false_iff_ne.2 (by omega)
      simp only [← hMe] at hM hH hw1 hwM q1 q2
      simp only [← hHe] at hM hH hw1 hwM q1 q2
      clear hHe hMe hMb hM hw1 fi fj h1 h2 hhl hhn hA2
      go_enter Try.func95, Try.ntmps95
      go_wp2_with (first
        | (go_at_call 72; refine (in_any _ _ _ _).mono ?_; rintro r w1 ⟨rfl, rfl⟩)
        | (go_at_call 91; refine (hH _).mono ?_; rintro r w3 ⟨rfl, rfl⟩))
      all_goals go_ret2
      all_goals exact JoinPost.no hj.out (Below.refl _ _)
  · have hj := Lib.hid (way_a_no (x0 := x0) (x1 := x1) (x2 := x2) h1 h2 (fun h => fi h.1))
    have q2 : ((x0.size : Int) == ((half n : Nat) : Int)) = false := beq_eq_false_iff_ne.2 (by omega)
    simp only [← hMe] at hM hH hw1 hwM q2
    simp only [← hHe] at hM hH hw1 hwM q2
    clear hHe hMe hMb hM hw1 fi h1 h2 hhl hhn hA2
    go_enter Try.func95, Try.ntmps95
    go_wp2_with (first
      | (go_at_call 72; refine (in_any _ _ _ _).mono ?_; rintro r w1 ⟨rfl, rfl⟩)
      | (go_at_call 91; refine (hH _).mono ?_; rintro r w3 ⟨rfl, rfl⟩))
    all_goals go_ret2
    all_goals exact JoinPost.no hj.out (Below.refl _ _)
end Go.Proofs.Ytndckncoipkhaaa.Cut

namespace Go.Proofs.Ytndckncoipkhaaa.Cut
open Go.RowKit

set_option maxRecDepth 100000 in
set_option maxHeartbeats 4000000 in
theorem spec_b (b off c : Nat) (x0 x1 x2 : ByteArray) (n : Nat) (w : World) (h1 : 1 ≤ n) (h2 : n ≤ 128) (hs : x0.size ≤ maxLen ∧ x1.size ≤ maxLen ∧ x2.size ≤ maxLen) (hA : Three w b off x0 x1 x2) :
    Calls Try.prog 95 #[.slice (some ⟨b, off, none⟩) 3 c, .int .i64 (n : Int), .int .i64 0] w (JoinPost [x0, x1, x2] (n : Int) 0 w) := by
  obtain ⟨s0, s1, s2⟩ := hs
  unfold maxLen at s0 s1 s2
  have hA2 := hA
  obtain ⟨hlt, k0, k1, k2⟩ := hA
  have hM : (n : Int) - ((half n : Nat) : Int) = ((n - half n : Nat) : Int) := by have := half_le n; omega
  have hH := fun w => half_is n w (by omega)
  have hhl := half_le n
  have hhn : half n ≤ 64 := by unfold half; omega
  have e1 := inB_yes (n := (n : Int)) (a := 1) (b := 128) (by omega) (by omega)
  have e2 := inB_yes (n := 0) (a := -1) (b := 1) (by omega) (by omega)
  have hw1 := IntWalk.i64_in ((n : Int) - ((half n : Nat) : Int)) (by omega)
  have hMb : (n - half n : Nat) ≤ 64 := by unfold half; omega
  have hwM : wrap64 ((n : Int) - ((half n : Nat) : Int)) = ((n - half n : Nat) : Int) := by simp only [wrap64]; omega
  obtain ⟨H, hHe⟩ : ∃ H, H = half n := ⟨_, rfl⟩
  obtain ⟨M, hMe⟩ : ∃ M, M = n - half n := ⟨_, rfl⟩
  by_cases fi : x1.size = n - half n
  · by_cases fj : x2.size = half n
    · have hj := Lib.hid (way_b (x0 := x0) h1 h2 fi fj)
      have q1 : ((x1.size : Int) == ((n - half n : Nat) : Int)) = true := beq_iff_eq.2 (by omega)
      have q2 : ((x2.size : Int) == ((half n : Nat) : Int)) = true := beq_iff_eq.2 (by omega)
      have hO := fun w => l4_other x1 x2 (half n) w (by omega) (by omega) (by unfold maxLen; omega)
      have hadd := fun w => run_string_add_sum (P := Try.prog) w (strOf (mixL x2.data.toList x1.data.toList (half n))) x1 (by rw [strOf_size, mixL_len]; omega)
      simp only [← hMe] at hM hH hw1 hwM q1 q2 hO hadd hj
      simp only [← hHe] at hM hH hw1 hwM q1 q2 hO hadd hj
      clear hHe hMe hMb hM hw1 fi fj h1 h2 hhl hhn
      go_enter Try.func95, Try.ntmps95
      go_wp2_with (first
        | (go_at_call 72; refine (in_any _ _ _ _).mono ?_; rintro r w1 ⟨rfl, rfl⟩)
        | (go_at_call 91; refine (hH _).mono ?_; rintro r w3 ⟨rfl, rfl⟩))
      have hA3 : Three w3.drew b off x0 x1 x2 := hA2
      have hT3 := hA3.cells
      go_region_held3 (fun W => W.cell? ⟨b, off, none⟩ = some (.string x0) ∧ W.cell? ⟨b, off + 1, none⟩ = some (.string x1) ∧ W.cell? ⟨b, off + 2, none⟩ = some (.string x2))
        ((show ThreeC b off x0 x1 x2 _; with_reducible (first | exact hT3 | exact hT4)))
        (first
          | (go_at_call 122; refine (hO _).mono ?_; rintro r w4 ⟨rfl, hb4⟩; have hT4 := (hA3.below hb4).cells))
      all_goals go_wp2_with fail
      all_goals go_ret2
      all_goals exact JoinPost.yes hj.out (bel_then (Below.refl _ _).drew hb4)
    · have hj := Lib.hid (way_b_no (x0 := x0) (x1 := x1) (x2 := x2) h1 h2 (fun h => fj h.2))
      have q1 : ((x1.size : Int) == ((n - half n : Nat) : Int)) = true := beq_iff_eq.2 (by omega)
      have q2 : ((x2.size : Int) == ((half n : Nat) : Int)) = false := beq_eq_false_iff_ne.2 (by omega)
      simp only [← hMe] at hM hH hw1 hwM q1 q2
      simp only [← hHe] at hM hH hw1 hwM q1 q2
      clear hHe hMe hMb hM hw1 fi fj h1 h2 hhl hhn hA2
      go_enter Try.func95, Try.ntmps95
      go_wp2_with (first
        | (go_at_call 72; refine (in_any _ _ _ _).mono ?_; rintro r w1 ⟨rfl, rfl⟩)
        | (go_at_call 91; refine (hH _).mono ?_; rintro r w3 ⟨rfl, rfl⟩))
      all_goals go_ret2
      all_goals exact JoinPost.no hj.out (Below.refl _ _)
  · have hj := Lib.hid (way_b_no (x0 := x0) (x1 := x1) (x2 := x2) h1 h2 (fun h => fi h.1))
    have q2 : ((x1.size : Int) == ((n - half n : Nat) : Int)) = false := beq_eq_false_iff_ne.2 (by omega)
    simp only [← hMe] at hM hH hw1 hwM q2
    simp only [← hHe] at hM hH hw1 hwM q2
    clear hHe hMe hMb hM hw1 fi h1 h2 hhl hhn hA2
    go_enter Try.func95, Try.ntmps95
    go_wp2_with (first
      | (go_at_call 72; refine (in_any _ _ _ _).mono ?_; rintro r w1 ⟨rfl, rfl⟩)
      | (go_at_call 91; refine (hH _).mono ?_; rintro r w3 ⟨rfl, rfl⟩))
    all_goals go_ret2
    all_goals exact JoinPost.no hj.out (Below.refl _ _)
end Go.Proofs.Ytndckncoipkhaaa.Cut

namespace Go.Proofs.Ytndckncoipkhaaa.Cut
open Go.RowKit

set_option maxRecDepth 100000 in
set_option maxHeartbeats 4000000 in
theorem spec_c (b off c : Nat) (x0 x1 x2 : ByteArray) (n : Nat) (w : World) (h1 : 1 ≤ n) (h2 : n ≤ 128) (hs : x0.size ≤ maxLen ∧ x1.size ≤ maxLen ∧ x2.size ≤ maxLen) (hA : Three w b off x0 x1 x2) :
    Calls Try.prog 95 #[.slice (some ⟨b, off, none⟩) 3 c, .int .i64 (n : Int), .int .i64 1] w (JoinPost [x0, x1, x2] (n : Int) 1 w) := by
  obtain ⟨s0, s1, s2⟩ := hs
  unfold maxLen at s0 s1 s2
  have hA2 := hA
  obtain ⟨hlt, k0, k1, k2⟩ := hA
  have hM : (n : Int) - ((half n : Nat) : Int) = ((n - half n : Nat) : Int) := by have := half_le n; omega
  have hH := fun w => half_is n w (by omega)
  have hhl := half_le n
  have hhn : half n ≤ 64 := by unfold half; omega
  have e1 := inB_yes (n := (n : Int)) (a := 1) (b := 128) (by omega) (by omega)
  have e2 := inB_yes (n := 1) (a := -1) (b := 1) (by omega) (by omega)
  have hw1 := IntWalk.i64_in ((n : Int) - ((half n : Nat) : Int)) (by omega)
  have hMb : (n - half n : Nat) ≤ 64 := by unfold half; omega
  have hwM : wrap64 ((n : Int) - ((half n : Nat) : Int)) = ((n - half n : Nat) : Int) := by simp only [wrap64]; omega
  obtain ⟨H, hHe⟩ : ∃ H, H = half n := ⟨_, rfl⟩
  obtain ⟨M, hMe⟩ : ∃ M, M = n - half n := ⟨_, rfl⟩
  by_cases fi : x0.size = half n
  · by_cases fj : x2.size = half n
    · have hj := Lib.hid (way_c (x1 := x1) h1 h2 fi fj)
      have q1 : ((x0.size : Int) == ((half n : Nat) : Int)) = true := beq_iff_eq.2 (by omega)
      have q2 : ((x2.size : Int) == ((half n : Nat) : Int)) = true := beq_iff_eq.2 (by omega)
      have hmh : n - half n ≤ half n := by unfold half; omega
      have hO := fun w => l4_other x0 x2 (n - half n) w (by omega) (by omega) (by unfold maxLen; omega)
      have hadd := fun w => run_string_add_sum (P := Try.prog) w x0 (strOf (mixL x2.data.toList x0.data.toList (n - half n))) (by rw [strOf_size, mixL_len]; omega)
      simp only [← hMe] at hM hH hw1 hwM q1 q2 hO hadd hj
      simp only [← hHe] at hM hH hw1 hwM q1 q2 hO hadd hj
      have HWI := Lib.hid (hw1.trans hM)
      clear hHe hMe hMb hM hw1 hmh fi fj h1 h2 hhl hhn
      go_enter Try.func95, Try.ntmps95
      go_wp2_with (first
        | (go_at_call 72; refine (in_any _ _ _ _).mono ?_; rintro r w1 ⟨rfl, rfl⟩)
        | (go_at_call 91; refine (hH _).mono ?_; rintro r w3 ⟨rfl, rfl⟩))
      have hwI := HWI.out
      have hA3 : Three w3.drew b off x0 x1 x2 := hA2
      have hT3 := hA3.cells
      go_region_held3 (fun W => W.cell? ⟨b, off, none⟩ = some (.string x0) ∧ W.cell? ⟨b, off + 1, none⟩ = some (.string x1) ∧ W.cell? ⟨b, off + 2, none⟩ = some (.string x2))
        ((show ThreeC b off x0 x1 x2 _; with_reducible (first | exact hT3 | exact hT4)))
        (first
          | (go_at_call 122; refine (hO _).mono ?_; rintro r w4 ⟨rfl, hb4⟩; have hT4 := (hA3.below hb4).cells))
      all_goals go_wp2_with fail
      all_goals go_ret2
      all_goals exact JoinPost.yes hj.out (bel_then (Below.refl _ _).drew hb4)
    · have hj := Lib.hid (way_c_no (x0 := x0) (x1 := x1) (x2 := x2) h1 h2 (fun h => fj h.2))
      have q1 : ((x0.size : Int) == ((half n : Nat) : Int)) = true := beq_iff_eq.2 (by omega)
      have q2 : ((x2.size : Int) == ((half n : Nat) : Int)) = false := beq_eq_false_iff_ne.2 (by omega)
      simp only [← hMe] at hM hH hw1 hwM q1 q2
      simp only [← hHe] at hM hH hw1 hwM q1 q2
      clear hHe hMe hMb hM hw1 fi fj h1 h2 hhl hhn hA2
      go_enter Try.func95, Try.ntmps95
      go_wp2_with (first
        | (go_at_call 72; refine (in_any _ _ _ _).mono ?_; rintro r w1 ⟨rfl, rfl⟩)
        | (go_at_call 91; refine (hH _).mono ?_; rintro r w3 ⟨rfl, rfl⟩))
      all_goals go_ret2
      all_goals exact JoinPost.no hj.out (Below.refl _ _)
  · have hj := Lib.hid (way_c_no (x0 := x0) (x1 := x1) (x2 := x2) h1 h2 (fun h => fi h.1))
    have q2 : ((x0.size : Int) == ((half n : Nat) : Int)) = false := beq_eq_false_iff_ne.2 (by omega)
    simp only [← hMe] at hM hH hw1 hwM q2
    simp only [← hHe] at hM hH hw1 hwM q2
    clear hHe hMe hMb hM hw1 fi h1 h2 hhl hhn hA2
    go_enter Try.func95, Try.ntmps95
    go_wp2_with (first
      | (go_at_call 72; refine (in_any _ _ _ _).mono ?_; rintro r w1 ⟨rfl, rfl⟩)
      | (go_at_call 91; refine (hH _).mono ?_; rintro r w3 ⟨rfl, rfl⟩))
    all_goals go_ret2
    all_goals exact JoinPost.no hj.out (Below.refl _ _)
end Go.Proofs.Ytndckncoipkhaaa.Cut

namespace Go.Proofs.Ytndckncoipkhaaa.Cut
open Go.RowKit

theorem spec_join (A : Option Addr) (c : Nat) (ss : List ByteArray) (size lost : Int) (w : World) (hn : ss.length ≤ maxLen) (hs : ∀ s ∈ ss, s.size ≤ maxLen) (hA : Lies w A (strCells ss)) :
    Calls Try.prog 95 #[.slice A ss.length c, .int .i64 size, .int .i64 lost] w (JoinPost ss size lost w) := by
  by_cases h : ss.length = 3 ∧ (1 ≤ size ∧ size ≤ 128) ∧ (-1 ≤ lost ∧ lost ≤ 1)
  · obtain ⟨h3, ⟨h1, h2⟩, hl⟩ := h
    match ss, h3 with
    | [x0, x1, x2], _ =>
      obtain ⟨n, rfl⟩ : ∃ n : Nat, size = (n : Int) := ⟨size.toNat, by omega⟩
      obtain ⟨b, off, rfl, ht⟩ := Three.of hA
      have hs' : x0.size ≤ maxLen ∧ x1.size ≤ maxLen ∧ x2.size ≤ maxLen := ⟨hs x0 (by simp), hs x1 (by simp), hs x2 (by simp)⟩
      rcases (show lost = -1 ∨ lost = 0 ∨ lost = 1 by omega) with rfl | rfl | rfl
      · exact spec_a b off c x0 x1 x2 n w (by omega) (by omega) hs' ht
      · exact spec_b b off c x0 x1 x2 n w (by omega) (by omega) hs' ht
      · exact spec_c b off c x0 x1 x2 n w (by omega) (by omega) hs' ht
  · exact spec_join_bad A c ss size lost w hn h
end Go.Proofs.Ytndckncoipkhaaa.Cut
