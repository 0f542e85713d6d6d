/-
  Disks as lists: whether one is valid, what is read from it, and what a power failure leaves.
  Stripes as lists: the columns of a block, and what is reckoned from two of them.
  Rows of texts and of waiting writes: how they lie in memory, and how they are copied by append.
  Decimal numerals, texts as lists of bytes, and the mark that a law writes into memory.
  The weight of a disk that a law is called with.
  A law's copy of a disk.
  Whether two disks that a law holds against each other are equal, field by field.
  The marks that a law writes into a disk's memory, and how it looks whether they are still there.
  Rows of bytes of the call's own, and what they are as a text.
  The model's columns of a block, and what it reckons from two of them.
  What the model reckons of a column from the other one and the parity.
  The program's exclusive or of two texts.
  The program mixes two texts as the lists say.
  The program's columns of a block: a closure over the text tells each.
-/
import Derived.Laws.Rows
import Derived.Lib.Hide
import Derived.Test.YtndckncoipkhaaaProg
import Derived.BigQuiet
import Derived.Deep.QuietTactic
import Derived.Laws.OwnMore
import Derived.OwnWalk
import Derived.Below
import Derived.Deep.AppendLies
import Derived.Deep.Draws
import Derived.Deep.MidRow
import Derived.Deep.LoopGhost
import Derived.Deep.DeepCutAuto
import Derived.Deep.CutBlock
import Derived.Maps.AppendAt
import Derived.RegionTactic
import Derived.IntWalk
import Derived.WalkKit
import Derived.WalkSpells
import Derived.Lib.ItoaNum
import Derived.Laws.BytesArg
import Derived.Deep.RegionWith
import Derived.Deep.RegionHeld3
import Derived.WalkSmall
import Derived.Laws.BitsAllLaws
import Derived.Lib.BufferWrite

namespace Go.Proofs.Ytndckncoipkhaaa.Cut

structure Wt where
  num : Int
  text : ByteArray
structure Dk where
  cells : List ByteArray
  waits : List Wt
  gone : Bool

def strOf (l : List UInt8) : ByteArray := ⟨l.toArray⟩
def none8 : ByteArray := ⟨#[]⟩
theorem none8_size : none8.size = 0 := rfl

def WtOk (x : Wt) : Prop := 0 ≤ x.num ∧ x.num ≤ 63 ∧ x.text.size ≤ 200
instance (x : Wt) : Decidable (WtOk x) := by unfold WtOk; infer_instance
def DkOk (d : Dk) : Prop := d.cells.length = 64 ∧ d.waits.length ≤ 120 ∧ (d.gone = true → d.waits.length = 0 ∧ ∀ s ∈ d.cells, s.size = 0) ∧ (∀ s ∈ d.cells, s.size ≤ 200) ∧ ∀ x ∈ d.waits, WtOk x
instance (d : Dk) : Decidable (DkOk d) := by unfold DkOk; infer_instance
/-- Whether a disk is valid. -/
def okD (d : Dk) : Bool := decide (DkOk d)
theorem okD_iff (d : Dk) : okD d = true ↔ DkOk d := by simp [okD]
theorem okD_no {d : Dk} (h : ¬ DkOk d) : okD d = false := by simp [okD, h]

/-- What the first k waiting writes, from the last on, say of a cell. -/
def rd (ws : List Wt) (n : Int) (z : ByteArray) : Nat → ByteArray
  | 0 => z
  | k + 1 => match ws[k]? with
    | some x => if x.num = n then x.text else rd ws n z k
    | none => rd ws n z k
theorem rd_next (ws : List Wt) (n : Int) (z : ByteArray) (k : Nat) (h : k < ws.length) : rd ws n z (k + 1) = if ws[k].num = n then ws[k].text else rd ws n z k := by
  simp [rd, List.getElem?_eq_getElem h]
/-- The text of a cell, if all is written. -/
def latest (d : Dk) (n : Int) : ByteArray := rd d.waits n (d.cells.getD n.toNat none8) d.waits.length
def readD (d : Dk) (n : Int) : ByteArray × Bool := if DkOk d ∧ d.gone = false ∧ 0 ≤ n ∧ n ≤ 63 then (latest d n, true) else (none8, false)

/-- Bit i mod 60. -/
def bitM (mask : Int) (i : Nat) : Bool := decide (mask / 2 ^ (i % 60) % 2 = 1)
def torn (old text : ByteArray) : ByteArray := strOf (text.data.toList.take (text.size / 2) ++ old.data.toList.drop (text.size / 2))
def stp (mask tear : Int) (i : Nat) (x : Wt) (cs : List ByteArray) : List ByteArray :=
  if bitM mask i = true then cs.set x.num.toNat x.text else if (i : Int) = tear then cs.set x.num.toNat (torn (cs.getD x.num.toNat none8) x.text) else cs
/-- The cells behind the first k waiting writes. -/
def st (ws : List Wt) (mask tear : Int) (cs : List ByteArray) : Nat → List ByteArray
  | 0 => cs
  | k + 1 => match ws[k]? with
    | some x => stp mask tear k x (st ws mask tear cs k)
    | none => st ws mask tear cs k
theorem st_next (ws : List Wt) (mask tear : Int) (cs : List ByteArray) (k : Nat) (h : k < ws.length) : st ws mask tear cs (k + 1) = stp mask tear k ws[k] (st ws mask tear cs k) := by
  simp [st, List.getElem?_eq_getElem h]
theorem stp_len (mask tear : Int) (i : Nat) (x : Wt) (cs : List ByteArray) : (stp mask tear i x cs).length = cs.length := by
  unfold stp
  split
  · simp
  · split <;> simp
theorem st_len (ws : List Wt) (mask tear : Int) (cs : List ByteArray) (k : Nat) : (st ws mask tear cs k).length = cs.length := by
  induction k with
  | zero => rfl
  | succ k ih =>
    unfold st
    split
    · rw [stp_len, ih]
    · exact ih
theorem torn_size (old text : ByteArray) : (torn old text).size ≤ max old.size text.size := by
  unfold torn strOf
  simp only [ByteArray.size, List.size_toArray, List.length_append, List.length_take, List.length_drop, Array.length_toList]
  omega
def SmallC (cs : List ByteArray) : Prop := ∀ s ∈ cs, s.size ≤ 200
theorem small_set {cs : List ByteArray} (h : SmallC cs) (i : Nat) {s : ByteArray} (hs : s.size ≤ 200) : SmallC (cs.set i s) := fun t ht => by
  rcases List.mem_or_eq_of_mem_set ht with h1 | h1
  · exact h t h1
  · rw [h1]; exact hs
theorem small_getD {cs : List ByteArray} (h : SmallC cs) (i : Nat) : (cs.getD i none8).size ≤ 200 := by
  rw [List.getD_eq_getElem?_getD]
  cases e : cs[i]? with
  | none => exact Nat.zero_le _
  | some s => exact h s (List.mem_of_getElem? e)
theorem stp_small {mask tear : Int} {i : Nat} {x : Wt} {cs : List ByteArray} (h : SmallC cs) (hx : WtOk x) : SmallC (stp mask tear i x cs) := by
  unfold stp
  split
  · exact small_set h _ hx.2.2
  · split
    · refine small_set h _ ?_
      have a := torn_size (cs.getD x.num.toNat none8) x.text
      have b := small_getD h x.num.toNat
      have c := hx.2.2
      omega
    · exact h
theorem st_small {ws : List Wt} {mask tear : Int} {cs : List ByteArray} (h : SmallC cs) (hw : ∀ x ∈ ws, WtOk x) (k : Nat) : SmallC (st ws mask tear cs k) := by
  induction k with
  | zero => exact h
  | succ k ih =>
    unfold st
    split
    · rename_i x hx
      exact stp_small ih (hw x (List.mem_of_getElem? hx))
    · exact ih
def blank : List ByteArray := List.replicate 64 none8
def dk0 : Dk := ⟨[], [], false⟩
def newD : Dk := ⟨blank, [], false⟩
def loseD : Dk := ⟨blank, [], true⟩
def crashD (d : Dk) (mask tear : Int) : Dk := if DkOk d ∧ 0 ≤ mask then ⟨st d.waits mask tear d.cells d.waits.length, [], d.gone⟩ else dk0
def flushD (d : Dk) : Dk := crashD d 1152921504606846975 (-1)
def writeD (d : Dk) (n : Int) (t : ByteArray) : Dk × Bool :=
  if DkOk d then (if d.gone = false ∧ 0 ≤ n ∧ n ≤ 63 ∧ t.size ≤ 200 ∧ d.waits.length < 120 then (⟨d.cells, d.waits ++ [⟨n, t⟩], d.gone⟩, true) else (d, false)) else (dk0, false)
def spoilD (d : Dk) (n : Int) (t : ByteArray) : Dk × Bool :=
  if DkOk d ∧ d.gone = false ∧ 0 ≤ n ∧ n ≤ 63 ∧ t.size ≤ 200 then (⟨d.cells.set n.toNat t, d.waits, d.gone⟩, true) else (dk0, false)
theorem bit_all (i : Nat) : bitM 1152921504606846975 i = true := by
  have h : ∀ j, j < 60 → (1152921504606846975 : Int) / 2 ^ j % 2 = 1 := by decide
  simp [bitM, h (i % 60) (Nat.mod_lt _ (by decide))]
end Go.Proofs.Ytndckncoipkhaaa.Cut

namespace Go.Proofs.Ytndckncoipkhaaa.Cut

def half (n : Nat) : Nat := (n + 1) / 2
theorem half_le (n : Nat) : half n ≤ n := by unfold half; omega
/-- The exclusive or of the first bytes of two texts, so many of them. -/
def mixL (a b : List UInt8) (n : Nat) : List UInt8 := (List.range n).map fun i => a.getD i 0 ^^^ b.getD i 0
theorem mixL_len (a b : List UInt8) (n : Nat) : (mixL a b n).length = n := by simp [mixL]
theorem mixL_next (a b : List UInt8) (n : Nat) : mixL a b (n + 1) = mixL a b n ++ [a.getD n 0 ^^^ b.getD n 0] := by simp [mixL, List.range_succ]
theorem mixL_getD (a b : List UInt8) (n i : Nat) (h : i < n) : (mixL a b n).getD i 0 = a.getD i 0 ^^^ b.getD i 0 := by
  simp [mixL, List.getD_eq_getElem?_getD, h]
theorem mixL_get (a b : List UInt8) (n i : Nat) (h : i < (mixL a b n).length) : (mixL a b n)[i] = a.getD i 0 ^^^ b.getD i 0 := by
  simp [mixL]
theorem xor_back (x y : UInt8) : (x ^^^ y) ^^^ y = x := by rw [UInt8.xor_assoc, UInt8.xor_self, UInt8.xor_zero]
theorem xor_back2 (x y : UInt8) : (x ^^^ y) ^^^ x = y := by rw [UInt8.xor_comm x y, xor_back]
/-- The columns of a text. -/
def colA (l : List UInt8) : List UInt8 := l.take (half l.length)
def colB (l : List UInt8) : List UInt8 := l.drop (half l.length)
def colP (l : List UInt8) : List UInt8 := mixL (colA l) (colB l) (half l.length)
theorem colA_len (l : List UInt8) : (colA l).length = half l.length := by
  have := half_le l.length
  rw [colA, List.length_take]; omega
theorem colB_len (l : List UInt8) : (colB l).length = l.length - half l.length := by rw [colB, List.length_drop]
theorem colP_len (l : List UInt8) : (colP l).length = half l.length := mixL_len _ _ _
theorem cols_app (l : List UInt8) : colA l ++ colB l = l := List.take_append_drop _ _
theorem list_ext_getD {a b : List UInt8} (n : Nat) (ha : a.length = n) (hb : b.length = n) (h : ∀ i, i < n → a.getD i 0 = b.getD i 0) : a = b := by
  apply List.ext_getElem (by omega)
  intro i h1 h2
  have := h i (by omega)
  rw [List.getD_eq_getElem?_getD, List.getD_eq_getElem?_getD, List.getElem?_eq_getElem h1, List.getElem?_eq_getElem h2] at this
  simpa using this
/-- The first column out of the others. -/
theorem mix_first (a b : List UInt8) (h : Nat) (ha : a.length = h) : mixL (mixL a b h) b h = a :=
  list_ext_getD h (mixL_len _ _ _) ha fun i hi => by rw [mixL_getD _ _ _ _ hi, mixL_getD _ _ _ _ hi, xor_back]
/-- The second column out of the others. -/
theorem mix_second (a b : List UInt8) (h k : Nat) (hk : k ≤ h) (hb : b.length = k) : mixL (mixL a b h) a k = b :=
  list_ext_getD k (mixL_len _ _ _) hb fun i hi => by rw [mixL_getD _ _ _ _ hi, mixL_getD _ _ _ _ (by omega), xor_back2]
/-- The text by a way: -1 by the first two columns, 0 without the first, 1 without the second. -/
def fitA (a : List UInt8) (size : Nat) : Prop := a.length = half size
def fitB (b : List UInt8) (size : Nat) : Prop := b.length = size - half size
instance (a : List UInt8) (n : Nat) : Decidable (fitA a n) := by unfold fitA; infer_instance
instance (a : List UInt8) (n : Nat) : Decidable (fitB a n) := by unfold fitB; infer_instance
def joinL (a b p : List UInt8) (size : Nat) (lost : Int) : List UInt8 × Bool :=
  if lost = -1 then (if fitA a size ∧ fitB b size then (a ++ b, true) else ([], false))
  else if lost = 0 then (if fitB b size ∧ fitA p size then (mixL p b (half size) ++ b, true) else ([], false))
  else (if fitA a size ∧ fitA p size then (a ++ mixL p a (size - half size), true) else ([], false))
theorem joinL_size {a b p : List UInt8} {size : Nat} {lost : Int} (h : (joinL a b p size lost).2 = true) : (joinL a b p size lost).1.length = size := by
  have hh := half_le size
  unfold joinL at h ⊢
  unfold fitA fitB at *
  split at h
  · split at h
    · rename_i h1 h2
      rw [if_pos h1, if_pos h2, List.length_append]
      omega
    · cases h
  · split at h
    · split at h
      · rename_i h0 h1 h2
        rw [if_neg h0, if_pos h1, if_pos h2, List.length_append, mixL_len]
        omega
      · cases h
    · split at h
      · rename_i h0 h1 h2
        rw [if_neg h0, if_neg h1, if_pos h2, List.length_append, mixL_len]
        omega
      · cases h
theorem join_cut (l : List UInt8) (lost : Int) : joinL (colA l) (colB l) (colP l) l.length lost = (l, true) := by
  have ha := colA_len l
  have hb := colB_len l
  have hp := colP_len l
  have hh : l.length - half l.length ≤ half l.length := by unfold half; omega
  unfold joinL fitA fitB
  split
  · rw [if_pos ⟨ha, hb⟩, cols_app]
  · split
    · rw [if_pos ⟨hb, hp⟩, colP, mix_first _ _ _ ha, cols_app]
    · rw [if_pos ⟨ha, hp⟩, colP, mix_second _ _ _ _ hh hb, cols_app]
/-- Whether columns are those of some block. -/
def wholeL (a b p : List UInt8) (size : Nat) : Bool := decide (fitA a size ∧ fitB b size ∧ p = mixL a b (half size))
theorem cut_of {a b : List UInt8} {size : Nat} (ha : fitA a size) (hb : fitB b size) : colA (a ++ b) = a ∧ colB (a ++ b) = b ∧ colP (a ++ b) = mixL a b (half size) := by
  have hh := half_le size
  unfold fitA at ha
  unfold fitB at hb
  have hl : (a ++ b).length = size := by rw [List.length_append]; omega
  have h1 : colA (a ++ b) = a := by unfold colA; rw [hl, ← ha, List.take_left']; rfl
  have h2 : colB (a ++ b) = b := by unfold colB; rw [hl, ← ha, List.drop_left']; rfl
  exact ⟨h1, h2, by unfold colP; rw [h1, h2, hl]⟩
end Go.Proofs.Ytndckncoipkhaaa.Cut

namespace Go.Proofs.Ytndckncoipkhaaa.Cut
open Go.RowKit

def strCells (ss : List ByteArray) : List Value := ss.map Value.string
theorem strCells_len (ss : List ByteArray) : (strCells ss).length = ss.length := by simp [strCells]
theorem strCells_app (a b : List ByteArray) : strCells (a ++ b) = strCells a ++ strCells b := by simp [strCells]
theorem strCells_at (ss : List ByteArray) (k : Nat) (h : k < ss.length) : (strCells ss)[k]? = some (.string ss[k]) := by simp [strCells, h]
theorem strCells_one (ss : List ByteArray) : ∀ u ∈ strCells ss, u.oneCell' = true := fun u hu => by
  obtain ⟨x, _, rfl⟩ := List.mem_map.1 hu
  rfl
def Wt.cells (x : Wt) : List Value := [.int .i64 x.num, .string x.text]
def wtCells (ws : List Wt) : List Value := ws.flatMap Wt.cells
theorem wtCells_len (ws : List Wt) : (wtCells ws).length = ws.length * 2 := by
  induction ws with
  | nil => rfl
  | cons x ws ih =>
    show (Wt.cells x ++ wtCells ws).length = _
    rw [List.length_append, ih, List.length_cons]
    show 2 + _ = _
    omega
theorem wtCells_app (a b : List Wt) : wtCells (a ++ b) = wtCells a ++ wtCells b := by simp [wtCells]
theorem wtCells_at : ∀ (ws : List Wt) (k : Nat) (h : k < ws.length), (wtCells ws)[k * 2]? = some (.int .i64 ws[k].num) ∧ (wtCells ws)[k * 2 + 1]? = some (.string ws[k].text)
  | x :: ws, 0, _ => ⟨rfl, rfl⟩
  | x :: ws, k + 1, h => by
    have ih := wtCells_at ws k (by simpa using h)
    constructor
    · show (Wt.cells x ++ wtCells ws)[(k + 1) * 2]? = _
      rw [List.getElem?_append_right (by show 2 ≤ _; omega)]
      show (wtCells ws)[(k + 1) * 2 - 2]? = _
      rw [show (k + 1) * 2 - 2 = k * 2 by omega]
      exact ih.1
    · show (Wt.cells x ++ wtCells ws)[(k + 1) * 2 + 1]? = _
      rw [List.getElem?_append_right (by show 2 ≤ _; omega)]
      show (wtCells ws)[(k + 1) * 2 + 1 - 2]? = _
      rw [show (k + 1) * 2 + 1 - 2 = k * 2 + 1 by omega]
      exact ih.2
theorem wtCells_one (ws : List Wt) : ∀ u ∈ wtCells ws, u.oneCell' = true := fun u hu => by
  obtain ⟨x, _, hx⟩ := List.mem_flatMap.1 hu
  simp only [Wt.cells, List.mem_cons, List.not_mem_nil, or_false] at hx
  rcases hx with rfl | rfl <;> rfl

/-- The cells xs lie behind the slice address A. -/
def Lies (w : World) (A : Option Addr) (xs : List Value) : Prop :=
  0 < xs.length → ∃ b off, A = some ⟨b, off, none⟩ ∧ b < w.heap.size ∧ ∀ j v, xs[j]? = some v → w.cell? ⟨b, off + j, none⟩ = some v
theorem Lies.nil (w : World) (A : Option Addr) : Lies w A [] := fun h => absurd h (by simp)
theorem Lies.below {w w' : World} {A : Option Addr} {xs : List Value} (h : Lies w A xs) (hb : Below w.heap.size w w') : Lies w' A xs := by
  intro h0
  obtain ⟨b, off, rfl, hlt, hc⟩ := h h0
  exact ⟨b, off, rfl, Nat.lt_of_lt_of_le hlt hb.size, fun j v hj => (hb.cell (p := ⟨b, off + j, none⟩) hlt).trans (hc j v hj)⟩
theorem Lies.alloc {w : World} {A : Option Addr} {xs : List Value} (h : Lies w A xs) (o : Obj) : Lies (w.alloc o) A xs := h.below ((Below.refl _ _).alloc (Nat.le_refl _) o)
theorem Lies.str {w : World} {A : Option Addr} {ss : List ByteArray} (h : Lies w A (strCells ss)) (k : Nat) (hk : k < ss.length) : ∃ b off, A = some ⟨b, off, none⟩ ∧ b < w.heap.size ∧ w.cell? ⟨b, off + k, none⟩ = some (.string ss[k]) := by
  obtain ⟨b, off, e, hlt, hc⟩ := h (by rw [strCells_len]; omega)
  exact ⟨b, off, e, hlt, hc k _ (strCells_at ss k hk)⟩
theorem Lies.wt {w : World} {A : Option Addr} {ws : List Wt} (h : Lies w A (wtCells ws)) (k : Nat) (hk : k < ws.length) : ∃ b off, A = some ⟨b, off, none⟩ ∧ b < w.heap.size ∧ w.cell? ⟨b, off + k * 2, none⟩ = some (.int .i64 ws[k].num) ∧ w.cell? ⟨b, off + k * 2 + 1, none⟩ = some (.string ws[k].text) := by
  obtain ⟨b, off, e, hlt, hc⟩ := h (by rw [wtCells_len]; omega)
  have a := wtCells_at ws k hk
  refine ⟨b, off, e, hlt, hc _ _ a.1, ?_⟩
  rw [show off + k * 2 + 1 = off + (k * 2 + 1) by omega]
  exact hc _ _ a.2
/-- A row of the call's own leads to its cells. -/
theorem own_lies {w : World} {base : Nat} {t : TypeId} {sz n : Nat} {v : Value} {xs : List Value} (h : w.ownsRow base t sz v n xs) : ∃ A c, v = .slice A n c ∧ Lies w A xs := by
  have hl := h.1
  have hc := fun g hg => h.cells (g := g) hg
  have hlt := fun g hg => h.lt g hg
  rcases h.2 with ⟨rfl, rfl⟩ | ⟨g, cap, cur, rfl, _⟩
  · refine ⟨none, 0, rfl, fun h0 => ?_⟩
    rw [hl] at h0
    omega
  · refine ⟨some ⟨g, 0, none⟩, cap, rfl, fun _ => ⟨g, 0, rfl, (hlt g rfl).2, fun j v hj => ?_⟩⟩
    have := hc g rfl j v hj
    rwa [Addr.add_mid] at this
theorem own_bel {w w' : World} {base : Nat} {t : TypeId} {sz n : Nat} {v : Value} {xs : List Value} (h : w.ownsRow base t sz v n xs) (hb : Below w.heap.size w w') : w'.ownsRow base t sz v n xs := by
  refine h.kept (row := none) ⟨hb.os, hb.tape, hb.output, hb.size, fun k hk _ => hb.block k hk⟩ ?_
  cases v.ownBlock with
  | none => exact .inl rfl
  | some k => exact .inr (by simp)
theorem bel_then {a b c : World} (h : Below a.heap.size a b) (k : Below b.heap.size b c) : Below a.heap.size a c := h.trans (k.mono h.size)
theorem bel_new {a b : World} (h : Below a.heap.size a b) (o : Obj) : Below a.heap.size a (b.alloc o) := h.alloc h.size o
end Go.Proofs.Ytndckncoipkhaaa.Cut

namespace Go.Proofs.Ytndckncoipkhaaa.Cut
open Go.RowKit

theorem strOf_toList (l : List UInt8) : (strOf l).data.toList = l := by simp [strOf]
theorem strOf_size (l : List UInt8) : (strOf l).size = l.length := by simp [strOf, ByteArray.size]
theorem bytes_inj {a b : ByteArray} (h : a.data.toList = b.data.toList) : a = b := by
  cases a; cases b
  simp at h
  rw [h]
theorem strOf_app (l m : List UInt8) : strOf l ++ strOf m = strOf (l ++ m) := by
  apply bytes_inj
  rw [strOf_toList]
  simp [strOf]
theorem add_strs (P : Program) (l m : List UInt8) (h : l.length + m.length ≤ 9223372036854775807) (w : World) : (Op.stringOp .add (strOf l) (strOf m)).run P w = .ok (.string (strOf (l ++ m))) w := by
  rw [run_string_add_sum w _ _ (by rw [strOf_size, strOf_size]; exact h), strOf_app]
set_option maxRecDepth 100000 in
theorem conv_one (w : World) (B : Nat) (x : UInt8) (h : w.cell? ⟨B, 0, none⟩ = some (.int .u8 (x.toNat : Int))) :
    (convert 100 9 (.slice (some ⟨B, 0, none⟩) 1 1)).run Try.prog w = .ok (.string (strOf [x])) w := by
  have hr := run_convert_bytes_arg (P := Try.prog) w 100 5 Try.underlying100 Try.underlying5 B 0 1 1 [(x.toNat : Int)] rfl (fun i hi => by
    obtain rfl : i = 0 := by omega
    rw [h]; rfl) 9 Try.underlying9
  rw [hr]
  congr 2
  simp [strOfNums, strOf]
theorem dec_small (u : Nat) (h : u < 10) : Lib.decDigits u = [UInt8.ofNat (48 + u)] := by rw [Lib.decDigits, dif_pos h]
theorem dec_more (u : Nat) (h : ¬ u < 10) : Lib.decDigits u = Lib.decDigits (u / 10) ++ [UInt8.ofNat (48 + u % 10)] := by rw [Lib.decDigits, dif_neg h]
theorem dig_nums (a : Int) (h0 : 0 ≤ a) (h9 : a < 10) : (48 + a : Int) = ((UInt8.ofNat (48 + a.toNat)).toNat : Int) := by
  have h : (UInt8.ofNat (48 + a.toNat)).toNat = 48 + a.toNat := by simp; omega
  rw [h]
  omega
theorem dec_length (k : Nat) : ∀ v : Nat, v < 10 ^ (k + 1) → (Lib.decDigits v).length ≤ k + 1 := by
  induction k with
  | zero =>
    intro v h
    rw [dec_small v (by simpa using h)]
    simp
  | succ k ih =>
    intro v h
    by_cases h10 : v < 10
    · rw [dec_small v h10]; simp
    · rw [dec_more v h10]
      have := ih (v / 10) (by rw [Nat.pow_succ] at h; omega)
      simp
      omega
def markL (k : Nat) : List UInt8 := 109 :: Lib.decDigits k
theorem dec_len7 (k : Nat) (h : k ≤ 9999999) : (Lib.decDigits k).length ≤ 7 := dec_length 6 k (by omega)

set_option maxRecDepth 100000 in
set_option maxHeartbeats 1000000 in
theorem mark_text (a : Int) (w : World) (h1 : 1 ≤ a) (h2 : a ≤ 9999999) :
    Calls Try.prog 108 #[.int .i64 a] w fun e w' => e = .returned (.string (strOf (markL a.toNat))) ∧ Below w.heap.size w w' := by
  obtain ⟨k, rfl⟩ : ∃ k : Nat, a = (k : Int) := ⟨a.toNat, by omega⟩
  rw [Int.toNat_natCast]
  have hk7 := dec_len7 k (by omega)
  have h1' : ¬ (k : Int) ≤ 0 := by omega
  go_enter Try.func108, Try.ntmps108
  go_wp2
  go_loopg [0, 3] k (fun g i o wr => ∃ (j : Nat) (l : List UInt8), g = j ∧ i = .int .i64 j ∧ o = .string (strOf l) ∧ l.length ≤ 7 ∧ j ≤ 9999999 ∧ (0 < j → Lib.decDigits k = Lib.decDigits j ++ l) ∧ (j = 0 → l = Lib.decDigits k) ∧ Below w.heap.size w wr)
  case atStart => exact ⟨k, [], rfl, rfl, rfl, by simp, by omega, fun _ => by simp, fun h => by omega, Below.refl _ _⟩
  case round =>
    obtain ⟨j, l, hg, rfl, rfl, hl, hj, hp, hz, hb⟩ := hrel
    have HG := Lib.hid hg
    clear hg
    by_cases hj0 : 0 < j
    · have hjj : (0 : Int) < (j : Int) := by omega
      obtain ⟨q, hq⟩ : ∃ q, q = j / 10 := ⟨_, rfl⟩
      obtain ⟨m, hm⟩ : ∃ m, m = j % 10 := ⟨_, rfl⟩
      have hm9 : m < 10 := by omega
      have hn := dig_nums (m : Int) (by omega) (by omega)
      rw [Int.toNat_natCast] at hn
      have hnew : (0 < q → Lib.decDigits k = Lib.decDigits q ++ (UInt8.ofNat (48 + m) :: l)) ∧ (q = 0 → UInt8.ofNat (48 + m) :: l = Lib.decDigits k) := by
        have hp' := hp hj0
        by_cases h10 : j < 10
        · rw [dec_small j h10] at hp'
          have : m = j := by omega
          subst this
          exact ⟨fun h => by omega, fun _ => by rw [hp']; rfl⟩
        · rw [dec_more j h10, ← hq, ← hm] at hp'
          exact ⟨fun _ => by rw [hp']; simp, fun h => by omega⟩
      obtain ⟨x, hx⟩ : ∃ x, x = UInt8.ofNat (48 + m) := ⟨_, rfl⟩
      rw [← hx] at hn hnew
      have hl2 : (x :: l).length ≤ 7 := by
        rcases Nat.eq_zero_or_pos q with h | h
        · rw [hnew.2 h]; exact hk7
        · have := congrArg List.length (hnew.1 h)
          rw [List.length_append] at this
          omega
      have hadd := add_strs Try.prog [x] l (by simp; omega)
      have hcv : ∀ (W : World) (B : Nat), W.cell? ⟨B, 0, none⟩ = some (.int .u8 (48 + (m : Int))) → (convert 100 9 (.slice (some ⟨B, 0, none⟩) 1 1)).run Try.prog W = .ok (.string (strOf [x])) W := fun W B h => conv_one W B x (by rw [h, hn])
      have hd : ((j : Int)).tdiv 10 = (q : Int) := by rw [Int.tdiv_eq_ediv_of_nonneg (by omega)]; omega
      have hmm : ((j : Int)).tmod 10 = (m : Int) := by rw [Int.tmod_eq_emod_of_nonneg (by omega)]; omega
      have hwq : IntKind.i64.wrap (q : Int) = q := IntWalk.i64_in _ (by omega)
      have hwm : IntKind.i64.wrap (48 + (m : Int)) = 48 + m := IntWalk.i64_in _ (by omega)
      have hwu : IntKind.u8.wrap (48 + (m : Int)) = 48 + m := IntWalk.u8_in _ (by omega)
      have HN := Lib.hid hnew
      have HQ := Lib.hid hq
      clear hnew hx hn hp hz hq hm
      go_wp2_with fail
      go_roundg q
      case measure => have := HG.out; have := HQ.out; omega
      case rel => exact ⟨q, x :: l, rfl, by first | rfl | (rw [hd, hwq]) | (go_num), rfl, hl2, by have := HQ.out; omega, HN.out.1, HN.out.2, hb.alloc hb.size _⟩
    · have hjz : j = 0 := by omega
      subst hjz
      have hle := hz rfl
      subst hle
      clear hp hz
      have hadd : ∀ w, (Op.stringOp .add ⟨#[109]⟩ (strOf (Lib.decDigits k))).run Try.prog w = .ok (.string (strOf (markL k))) w := fun w => add_strs Try.prog [109] (Lib.decDigits k) (by simp; omega) w
      go_wp2_with fail
      go_ret
      exact ⟨rfl, hb⟩
end Go.Proofs.Ytndckncoipkhaaa.Cut

namespace Go.Proofs.Ytndckncoipkhaaa.Cut
open Go.RowKit

def SzPost (n : Nat) (L : Int) (w : World) (e : Ending) (w' : World) : Prop := ∃ z : Int, e = .returned (.int .i64 z) ∧ Below w.heap.size w w' ∧ (0 ≤ z → (n : Int) ≤ L - z)

set_option maxHeartbeats 1000000 in
theorem sz_strs (A : Option Addr) (cap : Nat) (ss : List ByteArray) (L : Int) (w : World) (hL0 : 0 ≤ L) (hL : L ≤ 1048576) (hn : ss.length ≤ maxLen) (hs : ∀ s ∈ ss, s.size ≤ maxLen) (hA : Lies w A (strCells ss)) :
    Calls Try.prog 109 #[.slice A ss.length cap, .int .i64 L] w (SzPost ss.length L w) := by
  unfold maxLen at hn
  by_cases h0 : L < (ss.length : Int)
  · have h0' : L - (ss.length : Int) < 0 := by omega
    go_enter Try.func109, Try.ntmps109
    go_wp2
    go_ret
    exact ⟨_, rfl, Below.refl _ _, by intro h; omega⟩
  · have h0' : ¬ L - (ss.length : Int) < 0 := by omega
    go_enter Try.func109, Try.ntmps109
    go_wp2
    go_loop [1, 5] (fun z i => ∃ (k : Nat) (u : Int), k ≤ ss.length ∧ i = .int .i64 k ∧ z = .int .i64 u ∧ 0 ≤ u ∧ (ss.length : Int) ≤ L - u) (fun _ i => ss.length - (intOf i).toNat)
    case atStart => exact ⟨0, L - ss.length, Nat.zero_le _, rfl, rfl, by omega, by omega⟩
    case round =>
      obtain ⟨k, u, hk, rfl, rfl, hu, hle⟩ := hrel
      by_cases hlt : k < ss.length
      · obtain ⟨b, off, rfl, hb, hck⟩ := hA.str k hlt
        have hsk := hs ss[k] (by simp)
        unfold maxLen at hsk
        obtain ⟨x, hx⟩ : ∃ x, x = ss[k] := ⟨_, rfl⟩
        rw [← hx] at hck hsk
        clear hx
        by_cases hz : u < (x.size : Int)
        · have hz' : u - (x.size : Int) < 0 := by omega
          go_wp2
          go_ret
          exact ⟨_, rfl, Below.refl _ _, by intro h; omega⟩
        · have hz' : ¬ u - (x.size : Int) < 0 := by omega
          go_wp2
          go_round
          case rel => exact ⟨k + 1, u - x.size, by omega, by go_num, rfl, by omega, by omega⟩
          case measure => simp [intOf]; omega
      · have hke : k = ss.length := by omega
        subst hke
        go_wp2
        go_ret
        exact ⟨_, rfl, Below.refl _ _, fun _ => by omega⟩
end Go.Proofs.Ytndckncoipkhaaa.Cut

namespace Go.Proofs.Ytndckncoipkhaaa.Cut
open Go.RowKit

theorem Try.info9 : (Try.prog.info? 9).map (fun i => (i.zero, i.size, i.bytes)) = some (some (.string ⟨#[]⟩), 1, 16) := by kernel_rfl

theorem made_strs (n : Nat) : (madeCells (Value.cells (.string ⟨#[]⟩)) (n * 1)).toList = List.replicate n (Value.string ⟨#[]⟩) := by
  apply List.ext_getElem
  · simp [madeCells]
  · intro i h1 h2
    simp [madeCells, Value.cells, Nat.mod_one]
theorem set_next (ss : List ByteArray) (k m : Nat) (h : k < ss.length) (hm : ss.length - k = m + 1) :
    (strCells (ss.take k) ++ List.replicate (ss.length - k) (Value.string ⟨#[]⟩)).set k (Value.string ss[k]) = strCells (ss.take (k + 1)) ++ List.replicate (ss.length - (k + 1)) (Value.string ⟨#[]⟩) := by
  have hl : (strCells (ss.take k)).length = k := by simp [strCells]; omega
  rw [hm, show ss.length - (k + 1) = m by omega, List.set_append_right _ _ (by omega), hl, Nat.sub_self, List.replicate_succ, List.set_cons_zero,
    List.take_succ_eq_append_getElem h]
  unfold strCells
  rw [List.map_append, List.append_assoc]
  rfl

def ToPost (ss : List ByteArray) (w : World) (e : Ending) (w' : World) : Prop :=
  ∃ g, e = .returned (.slice (some ⟨g, 0, none⟩) ss.length ss.length) ∧ w'.ownsRow w.heap.size 9 1 (.slice (some ⟨g, 0, none⟩) ss.length ss.length) ss.length (strCells ss) ∧ Below w.heap.size w w'

set_option maxHeartbeats 1000000 in
theorem to_strs (A : Option Addr) (cap : Nat) (ss : List ByteArray) (w : World) (hn : ss.length ≤ 1048576) (hA : Lies w A (strCells ss)) :
    Calls Try.prog 111 #[.slice A ss.length cap] w (ToPost ss w) := by
  obtain ⟨i0, hi, hz0, hz1, hz2⟩ := info_parts Try.info9
  go_enter Try.func111, Try.ntmps111
  go_wp2_with (refine wpList_make_full _ rfl _ _ 57 rfl w.heap.size 9 i0 (.string ⟨#[]⟩) 1 Try.underlying57 hi hz0 hz1 _ _ _ _ ss.length rfl rfl rfl rfl (by rw [hz2]; omega) (by unfold maxLen; omega) (Nat.le_refl _) ?_; intro w1 hown hgrow; rw [made_strs] at hown)
  go_loopw [4] (fun i wr => ∃ k : Nat, k ≤ ss.length ∧ i = .int .i64 k ∧ wr.ownsRow w.heap.size 9 1 (.slice (some ⟨w.heap.size, 0, none⟩) ss.length ss.length) ss.length (strCells (ss.take k) ++ List.replicate (ss.length - k) (Value.string ⟨#[]⟩)) ∧ Below w.heap.size w wr) (fun i _ => ss.length - (intOf i).toNat)
  case atStart => exact ⟨0, Nat.zero_le _, rfl, by simpa [strCells] using hown, (Below.refl _ _).grown hgrow (Nat.le_refl _) (fun k e => by cases e)⟩
  case round =>
    obtain ⟨k, hk, rfl, ho, hb⟩ := hrel
    clear hown hgrow
    by_cases hlt : k < ss.length
    · obtain ⟨b, off, rfl, hlb, hck⟩ := (hA.below hb).str k hlt
      have hlen := ho.1
      have hcg : wr.cell? ⟨w.heap.size, k, none⟩ = some ((strCells (ss.take k) ++ List.replicate (ss.length - k) (Value.string ⟨#[]⟩))[k]'(by omega)) := by
        rw [ho.cellAt k (by omega)]
        exact List.getElem?_eq_getElem _
      have hfg := ho.frozenAt k
      obtain ⟨m, hm⟩ : ∃ m, ss.length - k = m + 1 := ⟨ss.length - k - 1, by omega⟩
      have hst := (ho.stored k (.string ss[k])).1
      have hsg := (ho.stored k (.string ss[k])).2
      rw [set_next ss k m hlt hm] at hst
      have B1 : Below w.heap.size w (wr.setCell ⟨w.heap.size, k, none⟩ (.string ss[k])) := hb.setCell (p := ⟨w.heap.size, k, none⟩) (Nat.le_refl _) _
      obtain ⟨y, hy⟩ : ∃ y, y = (strCells (ss.take k) ++ List.replicate (ss.length - k) (Value.string ⟨#[]⟩))[k]'(by omega) := ⟨_, rfl⟩
      rw [← hy] at hcg
      obtain ⟨x, hx⟩ : ∃ x, x = ss[k] := ⟨_, rfl⟩
      rw [← hx] at hck hst hsg B1
      clear hlen hm hy hx ho hb
      go_wp2
      go_roundw
      case rel => exact ⟨k + 1, by omega, by go_num, hst, B1⟩
      case measure => simp [intOf]; omega
    · have hke : k = ss.length := by omega
      subst hke
      rw [List.take_length, Nat.sub_self] at ho
      simp only [List.replicate_zero, List.append_nil] at ho
      go_wp2
      go_ret
      exact ⟨_, rfl, ho, hb⟩
end Go.Proofs.Ytndckncoipkhaaa.Cut

namespace Go.Proofs.Ytndckncoipkhaaa.Cut
open Go.RowKit

set_option maxHeartbeats 1000000 in
theorem eq_strs (A B : Option Addr) (ca cb : Nat) (ss : List ByteArray) (w : World) (hn : ss.length ≤ 1048576) (hA : Lies w A (strCells ss)) (hB : Lies w B (strCells ss)) :
    Calls Try.prog 106 #[.slice A ss.length ca, .slice B ss.length cb] w fun e w' => e = .returned (.bool true) ∧ Below w.heap.size w w' := by
  have hq0 : ((ss.length : Int) != (ss.length : Int)) = false := by simp
  go_enter Try.func106, Try.ntmps106
  go_wp2
  go_loopw [5] (fun i wr => ∃ k : Nat, k ≤ ss.length ∧ i = .int .i64 k ∧ Below w.heap.size w wr) (fun i _ => ss.length - (intOf i).toNat)
  case atStart => exact ⟨0, Nat.zero_le _, rfl, Below.refl _ _⟩
  case round =>
    obtain ⟨k, hk, rfl, hb⟩ := hrel
    by_cases hlt : k < ss.length
    · obtain ⟨b, off, rfl, hlb, hck⟩ := (hA.below hb).str k hlt
      obtain ⟨b2, off2, rfl, hlb2, hck2⟩ := (hB.below hb).str k hlt
      obtain ⟨x, hx⟩ : ∃ x, x = ss[k] := ⟨_, rfl⟩
      rw [← hx] at hck hck2
      have hq : (!x.toList == x.toList) = false := by simp
      have hlt' : (k : Int) < (ss.length : Int) := by omega
      clear hx
      go_wp2_with fail
      go_quiet (fail)
      go_wp2
      go_roundw
      case rel => exact ⟨k + 1, by omega, by go_num, below_drewN hb _⟩
      case measure => simp [intOf]; omega
    · have hke : k = ss.length := by omega
      subst hke
      go_wp2
      go_ret
      exact ⟨rfl, hb⟩
end Go.Proofs.Ytndckncoipkhaaa.Cut

namespace Go.Proofs.Ytndckncoipkhaaa.Cut
open Go.RowKit

theorem grown_trans {a b c : World} {r : Option Nat} (h : a.grownBy b r) (k : b.grownBy c r) : a.grownBy c r :=
  ⟨k.os.trans h.os, k.tape.trans h.tape, k.output.trans h.output, Nat.le_trans h.size k.size, fun i hi hne => (k.block i (Nat.lt_of_lt_of_le hi h.size) hne).trans (h.block i hi hne)⟩
theorem below_grown {a b : World} (h : Below a.heap.size a b) (r : Option Nat) : a.grownBy b r := ⟨h.os, h.tape, h.output, h.size, fun k hk _ => h.block k hk⟩
theorem own_addr {w : World} {base : Nat} {t : TypeId} {sz n m c : Nat} {A : Option Addr} {xs : List Value} (h : w.ownsRow base t sz (.slice A m c) n xs) (hn : 0 < n) : ∃ g, A = some ⟨g, 0, none⟩ := by
  rcases h.2 with ⟨_, h0⟩ | ⟨g, cap, _, e, _⟩
  · omega
  · cases e
    exact ⟨g, rfl⟩

def marks (a n : Nat) : List ByteArray := (List.range n).map fun i => strOf (markL (a + i))
theorem marks_len (a n : Nat) : (marks a n).length = n := by simp [marks]
theorem marks_next (a n : Nat) : marks a (n + 1) = marks a n ++ [strOf (markL (a + n))] := by simp [marks, List.range_succ]
theorem marks_at (a n k : Nat) (h : k < n) : (strCells (marks a n))[k]? = some (.string (strOf (markL (a + k)))) := by
  simp [strCells, marks, h]
theorem set_mark (a : Nat) (ss : List ByteArray) (k : Nat) (h : k < ss.length) :
    (strCells (marks a k ++ ss.drop k)).set k (.string (strOf (markL (a + k)))) = strCells (marks a (k + 1) ++ ss.drop (k + 1)) := by
  have hl : (strCells (marks a k)).length = k := by simp [strCells, marks]
  rw [marks_next, List.drop_eq_getElem_cons h]
  simp only [strCells, List.map_append, List.map_cons, List.append_assoc] at hl ⊢
  rw [List.set_append_right _ _ (by omega), hl, Nat.sub_self, List.set_cons_zero]
  rfl

def MarkPost (base : Nat) (t : TypeId) (v : Value) (a n : Nat) (w : World) (e : Ending) (w' : World) : Prop :=
  e = .returned (.int .i64 ((a : Int) + (n : Int))) ∧ w'.ownsRow base t 1 v n (strCells (marks a n)) ∧ w.grownBy w' v.ownBlock

set_option maxHeartbeats 1000000 in
theorem mark_strs (base : Nat) (t : TypeId) (A : Option Addr) (c : Nat) (ss : List ByteArray) (a : Nat) (w : World) (ha : 1 ≤ a) (hn : a + ss.length ≤ 9999999) (ho : w.ownsRow base t 1 (.slice A ss.length c) ss.length (strCells ss)) :
    Calls Try.prog 79 #[.slice A ss.length c, .int .i64 (a : Int)] w (MarkPost base t (.slice A ss.length c) a ss.length w) := by
  go_enter Try.func79, Try.ntmps79
  go_wp2
  go_loopg [1, 5] ss.length (fun gh m i wr => ∃ k : Nat, gh = ss.length - k ∧ k ≤ ss.length ∧ i = .int .i64 k ∧ m = .int .i64 ((a : Int) + (k : Int)) ∧ wr.ownsRow base t 1 (.slice A ss.length c) ss.length (strCells (marks a k ++ ss.drop k)) ∧ w.grownBy wr (Value.slice A ss.length c).ownBlock)
  case atStart => exact ⟨0, rfl, Nat.zero_le _, rfl, by simp, by simpa [marks] using ho, World.grownBy.refl _ _⟩
  case round =>
    clear ho
    obtain ⟨k, hg, hk, rfl, rfl, ho, hb⟩ := hrel
    have HG := Lib.hid hg
    clear hg
    by_cases hlt : k < ss.length
    · obtain ⟨g, rfl⟩ := own_addr ho (by omega)
      have hM := mark_text ((a : Int) + (k : Int)) wr (by omega) (by omega)
      rw [show ((a : Int) + (k : Int)).toNat = a + k by omega] at hM
      have hset := set_mark a ss k hlt
      obtain ⟨x, hx⟩ : ∃ x, x = strOf (markL (a + k)) := ⟨_, rfl⟩
      rw [← hx] at hM hset
      have hlt' : (k : Int) < (ss.length : Int) := by omega
      have hw1 := IntWalk.i64_in ((a : Int) + (k : Int) + 1) (by omega)
      clear hx
      go_wp2_with (go_at_call 108; refine hM.mono ?_; rintro e w1 ⟨rfl, hb1⟩; refine Hid.out ?_)
      refine Lib.hid ?_
      have ho1 := own_bel ho hb1
      have g1 := grown_trans hb (below_grown hb1 _)
      clear ho hb hM hb1
      have hlen := ho1.1
      have hcg : w1.cell? ⟨g, k, none⟩ = some ((strCells (marks a k ++ ss.drop k))[k]'(by omega)) := by
        rw [ho1.cellAt k (by omega)]
        exact List.getElem?_eq_getElem _
      have hfg := ho1.frozenAt k
      have hst := (ho1.stored k (.string x)).1
      have hsg := (ho1.stored k (.string x)).2
      rw [hset] at hst
      have G2 := grown_trans g1 hsg
      obtain ⟨y, hy⟩ : ∃ y, y = (strCells (marks a k ++ ss.drop k))[k]'(by omega) := ⟨_, rfl⟩
      rw [← hy] at hcg
      clear hlen hy ho1 g1 hset
      go_wp2_with fail
      go_roundg (ss.length - (k + 1))
      case measure => have := HG.out; omega
      case rel => exact ⟨k + 1, rfl, by omega, by go_num, by go_num, hst, G2⟩
    · have hke : k = ss.length := by omega
      subst hke
      rw [List.drop_length, List.append_nil] at ho
      go_wp2_with fail
      go_ret
      exact ⟨rfl, ho, hb⟩

set_option maxRecDepth 100000 in
set_option maxHeartbeats 1000000 in
theorem held_strs (base : Nat) (t : TypeId) (A : Option Addr) (c n a : Nat) (w : World) (ha : 1 ≤ a) (hn : a + n ≤ 9999999) (ho : w.ownsRow base t 1 (.slice A n c) n (strCells (marks a n))) :
    Calls Try.prog 81 #[.slice A n c, .int .i64 (a : Int)] w fun e w' => e = .returned (.int .i64 ((a : Int) + (n : Int))) ∧ Below w.heap.size w w' := by
  go_enter Try.func81, Try.ntmps81
  go_wp2
  go_loopg [1, 5] n (fun gh m i wr => ∃ k : Nat, gh = n - k ∧ k ≤ n ∧ i = .int .i64 k ∧ m = .int .i64 ((a : Int) + (k : Int)) ∧ Below w.heap.size w wr)
  case atStart => exact ⟨0, rfl, Nat.zero_le _, rfl, by simp, Below.refl _ _⟩
  case round =>
    obtain ⟨k, hg, hk, rfl, rfl, hb⟩ := hrel
    have HG := Lib.hid hg
    clear hg
    by_cases hlt : k < n
    · obtain ⟨g, rfl⟩ := own_addr ho (by omega)
      have hM := fun w => mark_text ((a : Int) + (k : Int)) w (by omega) (by omega)
      have hor := own_bel ho hb
      have hgl := (hor.lt g rfl).2
      have hck : wr.cell? ⟨g, k, none⟩ = some (.string (strOf (markL (a + k)))) := by rw [hor.cellAt k (by omega), marks_at a n k hlt]
      rw [show ((a : Int) + (k : Int)).toNat = a + k by omega] at hM
      obtain ⟨x, hx⟩ : ∃ x, x = strOf (markL (a + k)) := ⟨_, rfl⟩
      rw [← hx] at hM hck
      have hq : (!x.toList == x.toList) = false := by simp
      have hlt' : (k : Int) < (n : Int) := by omega
      have hw1 := IntWalk.i64_in ((a : Int) + (k : Int) + 1) (by omega)
      have HO := Lib.hid ho
      clear hx hor ho
      go_upto_region 4 with fail
      go_cut [18] (fun s wx => s = .bool false ∧ Below w.heap.size w wx)
      case first =>
        go_region_with (go_at_call 108; refine (hM _).mono ?_; rintro e w1 ⟨rfl, hb1⟩; have hcw : w1.cell? ⟨g, k, none⟩ = some (.string x) := (hb1.cell (p := ⟨g, k, none⟩) (by simpa using hgl)).trans hck)
        all_goals clear hM
        all_goals go_wp2_with fail
        all_goals go_meet
        all_goals exact ⟨rfl, hb.drew.trans (hb1.mono hb.size)⟩
      case rest =>
        obtain ⟨rfl, hb2⟩ := hcut
        go_wp2_with fail
        go_roundg (n - (k + 1))
        case measure => have := HG.out; omega
        case rel => exact ⟨k + 1, rfl, by omega, by go_num, by go_num, hb2⟩
    · have hke : k = n := by omega
      subst hke
      go_wp2_with fail
      go_ret
      exact ⟨rfl, hb⟩
end Go.Proofs.Ytndckncoipkhaaa.Cut

namespace Go.Proofs.Ytndckncoipkhaaa.Cut
open Go.RowKit

set_option maxRecDepth 100000
def cellsOf (l : List UInt8) : List Value := l.map fun c => Value.int .u8 (c.toNat : Int)
theorem cellsOf_len (l : List UInt8) : (cellsOf l).length = l.length := by simp [cellsOf]
theorem cellsOf_app (l m : List UInt8) : cellsOf (l ++ m) = cellsOf l ++ cellsOf m := by simp [cellsOf]
theorem Try.info5 : (Try.prog.info? 5).map (fun i => (i.zero, i.size, i.bytes)) = some (some (.int .u8 0), 1, 1) := by kernel_rfl
theorem strOf_nums (l : List UInt8) : strOfNums (l.map fun c => (c.toNat : Int)) = strOf l := by
  unfold strOfNums strOf
  congr 2
  rw [List.map_map]
  conv => rhs; rw [← List.map_id l]
  apply List.map_congr_left
  intro c _
  simp
theorem conv_own {w : World} {base n : Nat} {v : Value} {l : List UInt8} (h : w.ownsRow base 5 1 v n (cellsOf l)) :
    (convert 100 9 v).run Try.prog w = .ok (.string (strOf l)) w := by
  have hl := h.1
  rw [cellsOf_len] at hl
  have hc := fun g hg => h.cells (g := g) hg
  rcases h.2 with ⟨rfl, rfl⟩ | ⟨g, cap, cur, rfl, _⟩
  · have : l = [] := List.eq_nil_of_length_eq_zero (by omega)
    subst this
    exact run_convert_bytes_nil w 100 5 Try.underlying100 Try.underlying5 0 0 9 Try.underlying9
  · have hr := run_convert_bytes_arg (P := Try.prog) w 100 5 Try.underlying100 Try.underlying5 g 0 n cap (l.map fun c => (c.toNat : Int)) (by simp; omega) (fun i hi => by
      have hh := hc g rfl i (.int .u8 ((l[i]'(by omega)).toNat : Int)) (by simp [cellsOf, List.getElem?_map, List.getElem?_eq_getElem (show i < l.length by omega)])
      have hplain : (⟨g, 0, none⟩ : Addr).add i = ⟨g, 0 + i, none⟩ := by unfold Addr.add; split <;> simp_all
      rw [hplain] at hh
      rw [hh]
      simp [List.getD, List.getElem?_map, List.getElem?_eq_getElem (show i < l.length by omega)]) 9 Try.underlying9
    rw [hr, strOf_nums]
theorem own_next {w : World} {base n : Nat} {v : Value} {l m : List UInt8} {news : List Value} (h : w.ownsRow base 5 1 v n (cellsOf l ++ news)) (hn : news = cellsOf m) (hk : n = l.length + m.length) :
    w.ownsRow base 5 1 v (l ++ m).length (cellsOf (l ++ m)) := by
  rw [cellsOf_app, List.length_append, ← hk, ← hn]
  exact h
theorem own_form {W : World} {base n : Nat} {v : Value} {xs : List Value} (h : W.ownsRow base 5 1 v n xs) (hn : 0 < n) : ∃ g cap, v = .slice (some ⟨g, 0, none⟩) n cap := by
  rcases h.2 with ⟨_, h0⟩ | ⟨g, cap, _, rfl, _⟩
  · omega
  · exact ⟨g, cap, rfl⟩
theorem byte_of (x : Int) (h0 : 0 ≤ x) (h1 : x < 256) : ∃ c : UInt8, x = (c.toNat : Int) :=
  ⟨UInt8.ofNat x.toNat, by simp; omega⟩

theorem own_shape {w : World} {base n : Nat} {v : Value} {xs : List Value} (h : w.ownsRow base 5 1 v n xs) : ∃ a c, v = .slice a n c := by
  rcases h.2 with ⟨rfl, rfl⟩ | ⟨g, cap, cur, rfl, _⟩
  · exact ⟨_, _, rfl⟩
  · exact ⟨_, _, rfl⟩


end Go.Proofs.Ytndckncoipkhaaa.Cut

namespace Go.Proofs.Ytndckncoipkhaaa.Cut
open Go.RowKit

def inB (n a b : Int) : Bool := decide (a ≤ n ∧ n ≤ b)
theorem inB_yes {n a b : Int} (h1 : a ≤ n) (h2 : n ≤ b) : inB n a b = true := by simp [inB, h1, h2]
theorem inB_no {n a b : Int} (h : ¬ (a ≤ n ∧ n ≤ b)) : inB n a b = false := by simp only [inB, h, decide_false]
theorem in_any (n a b : Int) (w : World) : Calls Try.prog 72 #[.int .i64 n, .int .i64 a, .int .i64 b] w fun r w' => r = .returned (.bool (inB n a b)) ∧ w' = w := by
  by_cases h1 : a ≤ n
  · by_cases h2 : n ≤ b
    · rw [inB_yes h1 h2]
      go_enter Try.func72, Try.ntmps72
      go_wp2
      go_ret
      exact ⟨rfl, rfl⟩
    · rw [inB_no (fun h => h2 h.2)]
      go_enter Try.func72, Try.ntmps72
      go_wp2
      go_ret
      exact ⟨rfl, rfl⟩
  · rw [inB_no (fun h => h1 h.1)]
    go_enter Try.func72, Try.ntmps72
    go_wp2
    go_ret
    exact ⟨rfl, rfl⟩
theorem within_any (n a b : Int) (w : World) : Calls Try.prog 74 #[.int .i64 n, .int .i64 a, .int .i64 b] w fun r w' => r = .returned (.bool (inB n a b)) ∧ w' = w := by
  by_cases h1 : a ≤ n
  · by_cases h2 : n ≤ b
    · rw [inB_yes h1 h2]
      go_enter Try.func74, Try.ntmps74
      go_wp2
      go_ret
      exact ⟨rfl, rfl⟩
    · rw [inB_no (fun h => h2 h.2)]
      go_enter Try.func74, Try.ntmps74
      go_wp2
      go_ret
      exact ⟨rfl, rfl⟩
  · rw [inB_no (fun h => h1 h.1)]
    go_enter Try.func74, Try.ntmps74
    go_wp2
    go_ret
    exact ⟨rfl, rfl⟩
def blockB (t : ByteArray) : Bool := inB (t.size : Int) 1 128
theorem l2_block (t : ByteArray) (w : World) (h : t.size ≤ maxLen) : Calls Try.prog 48 #[.string t] w fun r w' => r = .returned (.bool (blockB t)) ∧ w' = w := by
  unfold maxLen at h
  unfold blockB
  go_enter Try.func48, Try.ntmps48
  go_wp2_with (go_at_call 72; refine (in_any _ _ _ _).mono ?_; rintro r w' ⟨rfl, rfl⟩)
  go_ret
  exact ⟨rfl, rfl⟩
theorem block_ok (t : ByteArray) (w : World) (h : t.size ≤ maxLen) : Calls Try.prog 53 #[.string t] w fun r w' => r = .returned (.bool (blockB t)) ∧ w' = w := by
  unfold maxLen at h
  unfold blockB
  go_enter Try.func53, Try.ntmps53
  go_wp2_with (go_at_call 74; refine (within_any _ _ _ _).mono ?_; rintro r w' ⟨rfl, rfl⟩)
  go_ret
  exact ⟨rfl, rfl⟩

theorem half_is (n : Nat) (w : World) (h : n ≤ 1048576) : Calls Try.prog 91 #[.int .i64 (n : Int)] w fun r w' => r = .returned (.int .i64 ((half n : Nat) : Int)) ∧ w' = w := by
  have hd : ((n : Int) + 1).tdiv 2 = ((half n : Nat) : Int) := by rw [Int.tdiv_eq_ediv_of_nonneg (by omega)]; unfold half; omega
  have hd2 : ((n : Int) + 1) / 2 = ((half n : Nat) : Int) := by unfold half; omega
  have hw := IntWalk.i64_in ((n : Int) + 1) (by omega)
  obtain ⟨k, hk⟩ : ∃ k, k = half n := ⟨_, rfl⟩
  rw [← hk] at hd hd2 ⊢
  clear hk
  go_enter Try.func91, Try.ntmps91
  go_wp2
  go_ret
  exact ⟨rfl, rfl⟩

theorem xor_u8 (x y : UInt8) : bits .xor .u8 (x.toNat : Int) (y.toNat : Int) = ((x ^^^ y).toNat : Int) := by
  rw [u8_xor_nat _ _ x.toNat_lt y.toNat_lt, UInt8.toNat_xor]
/-- A byte of a text, or zero. -/
theorem at_getD (l : List UInt8) (i : Nat) (h : i < l.length) : l.getD i 0 = l[i] := by
  rw [List.getD_eq_getElem?_getD, List.getElem?_eq_getElem h]; rfl
theorem past_getD (l : List UInt8) (i : Nat) (h : l.length ≤ i) : l.getD i 0 = 0 := by
  rw [List.getD_eq_getElem?_getD, List.getElem?_eq_none h]; rfl
theorem colA_getD (l : List UInt8) (i : Nat) (h : i < half l.length) : (colA l).getD i 0 = l.getD i 0 := by
  have := half_le l.length
  rw [List.getD_eq_getElem?_getD, List.getD_eq_getElem?_getD, colA, List.getElem?_take, if_pos h]
theorem colB_getD (l : List UInt8) (i : Nat) : (colB l).getD i 0 = l.getD (half l.length + i) 0 := by
  rw [List.getD_eq_getElem?_getD, List.getD_eq_getElem?_getD, colB, List.getElem?_drop]
theorem colP_next (l : List UInt8) (k : Nat) (h : k < half l.length) : mixL (colA l) (colB l) (k + 1) = mixL (colA l) (colB l) k ++ [l.getD k 0 ^^^ l.getD (half l.length + k) 0] := by
  rw [mixL_next, colA_getD l k h, colB_getD]

def texts3 (l : List UInt8) : List ByteArray := [strOf (colA l), strOf (colB l), strOf (colP l)]
/-- Some texts, in memory of the call's own. -/
def RowPost (ss : List ByteArray) (w : World) (r : Ending) (w' : World) : Prop :=
  ∃ A c, r = .returned (.slice A ss.length c) ∧ w'.ownsRow w.heap.size 9 1 (.slice A ss.length c) ss.length (strCells ss) ∧ Below w.heap.size w w'

theorem ext_list (s : ByteArray) (k : Nat) : (s.extract k s.size).data.toList = s.data.toList.drop k := by
  have h : (s.extract k s.size).data = s.data.extract k s.size := by simp
  rw [h, Array.toList_extract]
  simp only [List.extract_eq_take_drop]
  exact List.take_of_length_le (by simp)
theorem ext_head (s : ByteArray) (k : Nat) : (s.extract 0 k).data.toList = s.data.toList.take k := by
  have h : (s.extract 0 k).data = s.data.extract 0 k := by simp
  rw [h, Array.toList_extract]
  simp [List.extract_eq_take_drop]
theorem own_base {w : World} {base base' : Nat} {t : TypeId} {sz n : Nat} {v : Value} {xs : List Value} (h : w.ownsRow base t sz v n xs) (hb : base' ≤ base) : w.ownsRow base' t sz v n xs := by
  rcases h with ⟨h1, h2⟩
  refine ⟨h1, ?_⟩
  rcases h2 with h2 | ⟨g, cap, cur, e, hg, r⟩
  · exact .inl h2
  · exact .inr ⟨g, cap, cur, e, Nat.le_trans hb hg, r⟩
theorem own_new {w : World} {t : TypeId} (cs : List ByteArray) (h : cs.length ≤ 1000) : (w.alloc (.cells (strCells cs).toArray t)).ownsRow w.heap.size t 1 (.slice (some ⟨w.heap.size, 0, none⟩) cs.length cs.length) cs.length (strCells cs) := by
  refine ⟨by rw [strCells_len, Nat.mul_one], .inr ⟨w.heap.size, cs.length, (strCells cs).toArray, rfl, Nat.le_refl _, heap_alloc_new w _, Nat.le_refl _, by unfold maxLen; omega, by simp [strCells], ?_⟩⟩
  rw [List.take_of_length_le (by simp [strCells])]

set_option maxRecDepth 100000 in
set_option maxHeartbeats 2000000 in
theorem l4_cut (t : ByteArray) (w : World) (h : t.size ≤ 128) : Calls Try.prog 51 #[.string t] w (RowPost (texts3 t.data.toList) w) := by
  obtain ⟨i0, hi, hz0, hz1, hz2⟩ := info_parts Try.info5
  obtain ⟨l, hl⟩ : ∃ l, l = t.data.toList := ⟨_, rfl⟩
  have hln : l.length = t.size := by rw [hl, Array.length_toList]; rfl
  have hh := half_le t.size
  go_enter Try.func51, Try.ntmps51
  obtain ⟨H, hH⟩ : ∃ H, H = half t.size := ⟨_, rfl⟩
  have hHl : H = half l.length := by rw [hH, hln]
  have hF := half_is t.size
  simp only [← hH] at hF hh
  have HL := Lib.hid hl
  have HN := Lib.hid hln
  have HHL := Lib.hid hHl
  clear hH hl hln hHl
  go_wp2_with (go_at_call 91; refine (hF _ (by omega)).mono ?_; rintro r w' ⟨rfl, rfl⟩)
  have o0 := World.ownsRow_made (e := 5) (base := w'.heap.size) w' (size := 1) #[] 0 (Nat.le_refl _) (by decide) rfl
  go_loopw [4, 5] (fun p i wr => ∃ o : List UInt8, o.length ≤ H ∧ i = .int .i64 (o.length : Int) ∧ o = mixL (colA l) (colB l) o.length ∧ wr.ownsRow w'.heap.size 5 1 p o.length (cellsOf o) ∧ Below w'.heap.size w' wr) (fun _ i _ => H - (intOf i).toNat)
  case atStart => exact ⟨[], Nat.zero_le _, rfl, rfl, o0, bel_new (Below.refl _ _) _⟩
  case round =>
    obtain ⟨o, hk, rfl, hoo, ho, hb⟩ := hrel
    have HOO := Lib.hid hoo
    clear o0 hoo
    obtain ⟨a, c0, rfl⟩ := own_shape ho
    by_cases hlt : o.length < H
    · have hkt : o.length < t.size := by omega
      have hw1 := IntWalk.i64_in ((H : Int) + (o.length : Int)) (by omega)
      by_cases h2 : H + o.length < t.size
      · have h2' : (H : Int) + (o.length : Int) < (t.size : Int) := by omega
        have hx := xor_u8 t[o.length] t[H + o.length]
        obtain ⟨c, hc⟩ : ∃ c, c = t[o.length] ^^^ t[H + o.length] := ⟨_, rfl⟩
        rw [← hc] at hx
        have HC := Lib.hid hc
        clear hc
        go_wp2_with (at_builtin; refine wpList_append_own_at _ rfl _ _ 100 rfl w'.heap.size 5 i0 (.int .u8 0) 1 1 Try.underlying100 hi hz0 hz1 hz2 rfl (by decide) _ _ _ rfl (ho.alloc _) ⟨wr.heap.size, 0, none⟩ 1 1 [.int .u8 (c.toNat : Int)] rfl rfl (cell_one_new _ _ _) (by simp [Value.oneCell']) (by unfold maxLen; omega) (by omega) (by have := hb.size; simp; omega) ?_)
        intro v' w4 hown' hgrow _ hat
        have R := own_next hown' (m := [c]) rfl rfl
        have B1 : Below w'.heap.size w' w4 := (bel_new hb _).grown hgrow (by have := hb.size; simp; omega) (fun k e => (ho.lt k e).1)
        have hce : c = l.getD o.length 0 ^^^ l.getD (H + o.length) 0 := by
          rw [HC.out, at_getD l _ (by rw [HN.out]; exact hkt), at_getD l _ (by rw [HN.out]; exact h2)]
          simp only [HL.out]
          rfl
        have hnx : o ++ [c] = mixL (colA l) (colB l) (o.length + 1) := by
          rw [colP_next l o.length (by rw [← HHL.out]; exact hlt), ← HOO.out, ← HHL.out, hce]
        have NX := Lib.hid hnx
        clear hown' hgrow hat ho hb hce hnx hx
        go_wp2
        go_roundw
        case rel => exact ⟨o ++ [c], by simp; omega, by simp, by simpa using NX.out, by simpa using R, B1⟩
        case measure => simp [intOf]; omega
      · have h2' : ¬ (H : Int) + (o.length : Int) < (t.size : Int) := by omega
        go_wp2_with (at_builtin; refine wpList_append_own_at _ rfl _ _ 100 rfl w'.heap.size 5 i0 (.int .u8 0) 1 1 Try.underlying100 hi hz0 hz1 hz2 rfl (by decide) _ _ _ rfl (ho.alloc _) ⟨wr.heap.size, 0, none⟩ 1 1 [.int .u8 (t[o.length].toNat : Int)] rfl rfl (cell_one_new _ _ _) (by simp [Value.oneCell']) (by unfold maxLen; omega) (by omega) (by have := hb.size; simp; omega) ?_)
        intro v' w4 hown' hgrow _ hat
        have R := own_next hown' (m := [t[o.length]]) rfl rfl
        have B1 : Below w'.heap.size w' w4 := (bel_new hb _).grown hgrow (by have := hb.size; simp; omega) (fun k e => (ho.lt k e).1)
        have hce : t[o.length] = l.getD o.length 0 ^^^ l.getD (H + o.length) 0 := by
          rw [at_getD l _ (by rw [HN.out]; exact hkt), past_getD l _ (by rw [HN.out]; omega), UInt8.xor_zero]
          simp only [HL.out]
          rfl
        have hnx : o ++ [t[o.length]] = mixL (colA l) (colB l) (o.length + 1) := by
          rw [colP_next l o.length (by rw [← HHL.out]; exact hlt), ← HOO.out, ← HHL.out, hce]
        have NX := Lib.hid hnx
        clear hown' hgrow hat ho hb hce hnx
        go_wp2
        go_roundw
        case rel => exact ⟨o ++ [t[o.length]], by simp; omega, by simp, by simpa using NX.out, by simpa using R, B1⟩
        case measure => simp [intOf]; omega
    · have hH1 : (H : Int) ≤ (t.size : Int) := by omega
      have hcv := conv_own ho
      have hcvd := conv_own ho.drew
      have hke : o.length = H := by omega
      have hol : strCells [t.extract 0 H, t.extract H t.size, strOf o] = strCells (texts3 l) := by
        unfold texts3
        have e1 : t.extract 0 H = strOf (colA l) := by
          apply bytes_inj
          rw [strOf_toList, ext_head, HHL.out, ← HL.out]; rfl
        have e2 : t.extract H t.size = strOf (colB l) := by
          apply bytes_inj
          rw [strOf_toList, ext_list, HHL.out, ← HL.out]; rfl
        have e3 : o = colP l := by rw [HOO.out, hke, HHL.out]; rfl
        rw [e1, e2, e3]
      have HE := Lib.hid hol
      clear hol hke
      go_wp2_with fail
      first
        | go_region_with (fail)
        | fail "region"
      go_wp2_with fail
      go_ret
      rw [← HL.out]
      exact ⟨some ⟨wr.heap.size, 0, none⟩, 3, rfl, by rw [← HE.out]; exact own_base (own_new (w := wr) (t := 9) [t.extract 0 H, t.extract H t.size, strOf o] (by simp)).drew hb.size, (bel_new hb _).drew⟩
end Go.Proofs.Ytndckncoipkhaaa.Cut

namespace Go.Proofs.Ytndckncoipkhaaa.Cut
open Go.RowKit

set_option maxRecDepth 100000 in
set_option maxHeartbeats 2000000 in
theorem l4_other (a p : ByteArray) (n : Nat) (w : World) (hn : n ≤ 128) (hp : n ≤ p.size) (ha : a.size ≤ maxLen) :
    Calls Try.prog 122 #[.string a, .string p, .int .i64 (n : Int)] w fun r w' => r = .returned (.string (strOf (mixL p.data.toList a.data.toList n))) ∧ Below w.heap.size w w' := by
  obtain ⟨i0, hi, hz0, hz1, hz2⟩ := info_parts Try.info5
  obtain ⟨l, hl⟩ : ∃ l, l = p.data.toList := ⟨_, rfl⟩
  obtain ⟨m, hm⟩ : ∃ l, l = a.data.toList := ⟨_, rfl⟩
  have hln : l.length = p.size := by rw [hl, Array.length_toList]; rfl
  have hmn : m.length = a.size := by rw [hm, Array.length_toList]; rfl
  rw [← hl, ← hm]
  have HL := Lib.hid hl
  have HN := Lib.hid hln
  have HM := Lib.hid hm
  have HMN := Lib.hid hmn
  unfold maxLen at ha
  clear hl hln hm hmn
  go_enter Try.func122, Try.ntmps122
  go_wp2_with fail
  have o0 := World.ownsRow_made (e := 5) (base := w.heap.size) w (size := 1) #[] 0 (Nat.le_refl _) (by decide) rfl
  go_loopw [7, 8] (fun v i wr => ∃ o : List UInt8, o.length ≤ n ∧ i = .int .i64 (o.length : Int) ∧ o = mixL l m o.length ∧ wr.ownsRow w.heap.size 5 1 v o.length (cellsOf o) ∧ Below w.heap.size w wr) (fun _ i _ => n - (intOf i).toNat)
  case atStart => exact ⟨[], Nat.zero_le _, rfl, rfl, o0, bel_new (Below.refl _ _) _⟩
  case round =>
    obtain ⟨o, hk, rfl, hoo, ho, hb⟩ := hrel
    have HOO := Lib.hid hoo
    clear o0 hoo
    obtain ⟨A, c0, rfl⟩ := own_shape ho
    by_cases hlt : o.length < n
    · have hkt : o.length < p.size := by omega
      by_cases h2 : o.length < a.size
      · have h2' : (o.length : Int) < (a.size : Int) := by omega
        have hx := xor_u8 p[o.length] a[o.length]
        obtain ⟨c, hc⟩ : ∃ c, c = p[o.length] ^^^ a[o.length] := ⟨_, rfl⟩
        rw [← hc] at hx
        have HC := Lib.hid hc
        clear hc
        go_wp2_with (at_builtin; refine wpList_append_own_at _ rfl _ _ 100 rfl w.heap.size 5 i0 (.int .u8 0) 1 1 Try.underlying100 hi hz0 hz1 hz2 rfl (by decide) _ _ _ rfl (ho.alloc _) ⟨wr.heap.size, 0, none⟩ 1 1 [.int .u8 (c.toNat : Int)] rfl rfl (cell_one_new _ _ _) (by simp [Value.oneCell']) (by unfold maxLen; omega) (by omega) (by have := hb.size; simp; omega) ?_)
        intro v' w4 hown' hgrow _ hat
        have R := own_next hown' (m := [c]) rfl rfl
        have B1 : Below w.heap.size w w4 := (bel_new hb _).grown hgrow (by have := hb.size; simp; omega) (fun k e => (ho.lt k e).1)
        have hce : c = l.getD o.length 0 ^^^ m.getD o.length 0 := by
          rw [HC.out, at_getD l _ (by rw [HN.out]; exact hkt), at_getD m _ (by rw [HMN.out]; exact h2)]
          simp only [HL.out, HM.out]
          rfl
        have hnx : o ++ [c] = mixL l m (o.length + 1) := by rw [mixL_next, ← HOO.out, hce]
        have NX := Lib.hid hnx
        clear hown' hgrow hat ho hb hce hnx hx
        go_wp2
        go_roundw
        case rel => exact ⟨o ++ [c], by simp; omega, by simp, by simpa using NX.out, by simpa using R, B1⟩
        case measure => simp [intOf]; omega
      · have h2' : ¬ (o.length : Int) < (a.size : Int) := by omega
        go_wp2_with (at_builtin; refine wpList_append_own_at _ rfl _ _ 100 rfl w.heap.size 5 i0 (.int .u8 0) 1 1 Try.underlying100 hi hz0 hz1 hz2 rfl (by decide) _ _ _ rfl (ho.alloc _) ⟨wr.heap.size, 0, none⟩ 1 1 [.int .u8 (p[o.length].toNat : Int)] rfl rfl (cell_one_new _ _ _) (by simp [Value.oneCell']) (by unfold maxLen; omega) (by omega) (by have := hb.size; simp; omega) ?_)
        intro v' w4 hown' hgrow _ hat
        have R := own_next hown' (m := [p[o.length]]) rfl rfl
        have B1 : Below w.heap.size w w4 := (bel_new hb _).grown hgrow (by have := hb.size; simp; omega) (fun k e => (ho.lt k e).1)
        have hce : p[o.length] = l.getD o.length 0 ^^^ m.getD o.length 0 := by
          rw [at_getD l _ (by rw [HN.out]; exact hkt), past_getD m _ (by rw [HMN.out]; omega), UInt8.xor_zero]
          simp only [HL.out]
          rfl
        have hnx : o ++ [p[o.length]] = mixL l m (o.length + 1) := by rw [mixL_next, ← HOO.out, hce]
        have NX := Lib.hid hnx
        clear hown' hgrow hat ho hb hce hnx
        go_wp2
        go_roundw
        case rel => exact ⟨o ++ [p[o.length]], by simp; omega, by simp, by simpa using NX.out, by simpa using R, B1⟩
        case measure => simp [intOf]; omega
    · have hcv := conv_own ho
      have hke : o.length = n := by omega
      have hoe : o = mixL l m n := by rw [← hke]; exact HOO.out
      have HE := Lib.hid hoe
      clear hke hoe
      go_wp2_with fail
      go_ret
      exact ⟨by rw [← HE.out]; rfl, hb⟩
end Go.Proofs.Ytndckncoipkhaaa.Cut

namespace Go.Proofs.Ytndckncoipkhaaa.Cut
open Go.RowKit

/-- copy from a text of whatever length into a row. -/
theorem run_copy_cut {P : Program} (w : World) (dT sT ty elem : TypeId) (g dLen dCap : Nat) (s : ByteArray) (cur : Array Value) (t : TypeId)
    (hu : P.underlying dT = some (.slice elem)) (hs : (P.info? elem).map (·.size) = some 1) (hg : w.heap[g]? = some (.cells cur t (0, 0))) (hfit : dLen ≤ cur.size) :
    (Builtin.copy_ #[dT, sT] ty #[.slice (some ⟨g, 0, none⟩) dLen dCap, .string s]).run P w =
      .ok (goInt (Nat.min s.size dLen)) (w.setRow g ((cellsOf s.data.toList).take (Nat.min s.size dLen) ++ cur.toList.drop (Nat.min s.size dLen)).toArray) := by
  obtain ⟨m, hm⟩ : ∃ m, m = Nat.min s.size dLen := ⟨_, rfl⟩
  have hms : m ≤ s.size := by rw [hm]; exact Nat.min_le_left _ _
  have hmd : m ≤ dLen := by rw [hm]; exact Nat.min_le_right _ _
  have hsz : s.data.toList.length = s.size := by rw [Array.length_toList]; rfl
  have hlen : ((cellsOf s.data.toList).take m).length = m := by rw [List.length_take, cellsOf_len, hsz, Nat.min_eq_left hms]
  have hone : ∀ v ∈ (cellsOf s.data.toList).take m, v.oneCell' = true := fun v hv => by
    obtain ⟨c, _, rfl⟩ := List.mem_map.1 (List.mem_of_mem_take hv)
    rfl
  have hst := run_storeCells_at P g 0 t ((cellsOf s.data.toList).take m) 0 cur w hg (by rw [hlen]; omega) hone
  rw [hlen] at hst
  simp only [Nat.add_zero, Nat.zero_add, List.take_zero, List.nil_append] at hst
  rw [← hm]
  cases hq : P.info? elem with
  | none => simp [hq] at hs
  | some i =>
    have htk : List.take m (List.map (fun b : UInt8 => Value.int IntKind.u8 (b.toNat : Int)) s.data.toList) = (cellsOf s.data.toList).take m := rfl
    simp [Builtin.copy_, run_underlying hu, Builtin.lenOf, Builtin.firstCells, sizeOf, typeInfo, hq]
    rw [← hm, htk, hst]
    rfl

theorem own_copy {W : World} {base g n cap : Nat} {l : List UInt8} (h : W.ownsRow base 5 1 (.slice (some ⟨g, 0, none⟩) n cap) n (cellsOf l)) (a : ByteArray) :
    ∃ W' : World, (∀ ty, (Builtin.copy_ #[100, 9] ty #[.slice (some ⟨g, 0, none⟩) n cap, .string a]).run Try.prog W = .ok (goInt (Nat.min a.size n)) W') ∧
      W'.ownsRow base 5 1 (.slice (some ⟨g, 0, none⟩) n cap) n (cellsOf (a.data.toList.take (Nat.min a.size n) ++ l.drop (Nat.min a.size n))) ∧ W.grownBy W' (some g) := by
  obtain ⟨m, hm⟩ : ∃ m, m = Nat.min a.size n := ⟨_, rfl⟩
  have hma : m ≤ a.size := by rw [hm]; exact Nat.min_le_left _ _
  have hmn : m ≤ n := by rw [hm]; exact Nat.min_le_right _ _
  have hal : a.data.toList.length = a.size := by rw [Array.length_toList]; rfl
  obtain ⟨hl, h2⟩ := h
  rw [cellsOf_len, Nat.mul_one] at hl
  rcases h2 with ⟨e, _⟩ | ⟨g', cap', cur, e, hb, hg, hnc, hcm, hcs, htk⟩
  · cases e
  cases e
  have hr := fun ty => run_copy_cut (P := Try.prog) W 100 9 ty 5 g n cap a cur 5 Try.underlying100 (by kernel_rfl) hg (by omega)
  have hx : ((cellsOf a.data.toList).take m ++ cur.toList.drop m).length = cur.size := by
    have hct : cur.toList.length = cur.size := Array.length_toList
    rw [List.length_append, List.length_take, cellsOf_len, List.length_drop, hal, Nat.min_eq_left hma, hct]; omega
  refine ⟨_, hr, ?_, ⟨rfl, rfl, rfl, by simp [World.setRow], fun k hk hne => setRow_other W g k _ (fun e => hne (by rw [e]))⟩⟩
  rw [← hm]
  refine ⟨by rw [cellsOf_len, List.length_append, List.length_take, List.length_drop, hal, Nat.min_eq_left hma, hl]; omega, .inr ⟨g, cap, _, rfl, hb, setRow_heap W g cur _ 5 _ hg, hnc, hcm, ?_, ?_⟩⟩
  · rw [List.size_toArray, hx, hcs]
  · rw [Nat.mul_one] at htk ⊢
    have ht : cur.toList.take n = cellsOf l := htk
    show List.take n (List.take m (cellsOf a.data.toList) ++ List.drop m cur.toList) = _
    have hk : (List.take m (cellsOf a.data.toList)).length = m := by rw [List.length_take, cellsOf_len, hal, Nat.min_eq_left hma]
    rw [List.take_append, hk, List.take_of_length_le (by omega), cellsOf_app]
    have e1 : cellsOf (List.take m a.data.toList) = List.take m (cellsOf a.data.toList) := by unfold cellsOf; rw [List.map_take]
    have e2 : cellsOf (List.drop m l) = List.drop m (cellsOf l) := by unfold cellsOf; rw [List.map_drop]
    rw [e1, e2, ← ht, List.drop_take]

/-- The first k bytes mixed, the others as they were copied. -/
def stepL (a b : List UInt8) (n k : Nat) : List UInt8 := (List.range n).map fun i => if i < k then a.getD i 0 ^^^ b.getD i 0 else a.getD i 0
theorem stepL_len (a b : List UInt8) (n k : Nat) : (stepL a b n k).length = n := by simp [stepL]
theorem stepL_at (a b : List UInt8) (n k i : Nat) (h : i < n) : (stepL a b n k)[i]? = some (if i < k then a.getD i 0 ^^^ b.getD i 0 else a.getD i 0) := by
  simp [stepL, h]
theorem stepL_zero (a b : List UInt8) (n : Nat) (z : List UInt8) (hz : z = List.replicate n 0) : a.take (Nat.min a.length n) ++ z.drop (Nat.min a.length n) = stepL a b n 0 := by
  subst hz
  apply List.ext_getElem?
  intro i
  by_cases hi : i < n
  · rw [stepL_at _ _ _ _ _ hi, if_neg (by omega)]
    by_cases ha : i < a.length
    · rw [List.getElem?_append_left (by rw [List.length_take]; have : Nat.min a.length n = min a.length n := rfl; omega), List.getElem?_take, if_pos (by have : Nat.min a.length n = min a.length n := rfl; omega), List.getD_eq_getElem?_getD, List.getElem?_eq_getElem ha]
      rfl
    · have hm : Nat.min a.length n = a.length := Nat.min_eq_left (by omega)
      rw [hm, List.take_length, List.getElem?_append_right (by omega), List.getElem?_drop, List.getElem?_replicate, if_pos (by omega), past_getD a i (by omega)]
  · rw [List.getElem?_eq_none (by rw [List.length_append, List.length_take, List.length_drop, List.length_replicate]; have : Nat.min a.length n = min a.length n := rfl; omega), List.getElem?_eq_none (by rw [stepL_len]; omega)]
theorem stepL_set (a b : List UInt8) (n k : Nat) (h : k < n) : (cellsOf (stepL a b n k)).set k (.int .u8 ((a.getD k 0 ^^^ b.getD k 0).toNat : Int)) = cellsOf (stepL a b n (k + 1)) := by
  unfold cellsOf
  rw [← List.map_set]
  congr 1
  apply List.ext_getElem?
  intro i
  by_cases hi : i < n
  · rw [stepL_at _ _ _ _ _ hi]
    by_cases e : i = k
    · subst e
      rw [List.getElem?_set_self (by rw [stepL_len]; exact h), if_pos (by omega)]
    · rw [List.getElem?_set_ne (by omega), stepL_at _ _ _ _ _ hi]
      by_cases h2 : i < k
      · rw [if_pos h2, if_pos (by omega)]
      · rw [if_neg h2, if_neg (by omega)]
  · rw [List.getElem?_eq_none (by rw [List.length_set, stepL_len]; omega), List.getElem?_eq_none (by rw [stepL_len]; omega)]
theorem stepL_all (a b : List UInt8) (n : Nat) : stepL a b n (min n b.length) = mixL a b n := by
  apply List.ext_getElem?
  intro i
  by_cases hi : i < n
  · rw [stepL_at _ _ _ _ _ hi, List.getElem?_eq_getElem (by rw [mixL_len]; exact hi), mixL_get]
    by_cases h2 : i < b.length
    · rw [if_pos (by omega)]
    · rw [if_neg (by omega), past_getD b i (by omega), UInt8.xor_zero]
  · rw [List.getElem?_eq_none (by rw [stepL_len]; omega), List.getElem?_eq_none (by rw [mixL_len]; omega)]
end Go.Proofs.Ytndckncoipkhaaa.Cut

namespace Go.Proofs.Ytndckncoipkhaaa.Cut
open Go.RowKit

theorem made_bytes (n : Nat) : (madeCells (Value.cells (.int .u8 0)) (n * 1)).toList = cellsOf (List.replicate n 0) := by
  apply List.ext_getElem
  · simp [madeCells, cellsOf]
  · intro i h1 h2
    simp [madeCells, Value.cells, Nat.mod_one, cellsOf]
/-- copy from a text, as a step. -/
theorem wpList_copy_text {w : World} {ops : Array Oper} {rest : List Oper} {o : Oper} {a : Act} {Q : Exit → Act → World → Prop} (hgd : o.guard = none) (d s : Operand)
    (ho : o.op = .call { callee := .builtin .copy, args := #[d, s], argTypes := #[100, 9] }) (v : Value) (t : ByteArray) (hd : a.eval d = v) (hs : a.eval s = .string t) (r : Value) (w' : World)
    (hr : ∀ ty, (Builtin.copy_ #[100, 9] ty #[v, .string t]).run Try.prog w = .ok r w') (h : wpList Try.prog ops Q rest (a.put o.dst r) w') : wpList Try.prog ops Q (o :: rest) a w :=
  wpList_plain hgd fun _ hK => by
    have hr' := hr o.type
    unfold Oper.wp execOp
    simp only [ho, resolve, invoke, builtin, Sem.run_bind, Sem.run_pure, Result.andThen_ok, List.map_toArray, List.map_cons, List.map_nil, hd, hs, hr']
    exact hK _ _ h

set_option maxRecDepth 100000 in
set_option maxHeartbeats 2000000 in
theorem impl_mixed (a b : ByteArray) (n : Nat) (w : World) (hn : n ≤ 128) (ha : a.size ≤ maxLen) (hb : b.size ≤ maxLen) :
    Calls Try.prog 118 #[.string a, .string b, .int .i64 (n : Int)] w fun r w' => r = .returned (.string (strOf (mixL a.data.toList b.data.toList n))) ∧ Below w.heap.size w w' := by
  obtain ⟨i0, hi, hz0, hz1, hz2⟩ := info_parts Try.info5
  obtain ⟨l, hl⟩ : ∃ l, l = a.data.toList := ⟨_, rfl⟩
  obtain ⟨m, hm⟩ : ∃ l, l = b.data.toList := ⟨_, rfl⟩
  have hln : l.length = a.size := by rw [hl, Array.length_toList]; rfl
  have hmn : m.length = b.size := by rw [hm, Array.length_toList]; rfl
  obtain ⟨q, hq⟩ : ∃ q, q = min n b.size := ⟨_, rfl⟩
  have hqn : q ≤ n := by omega
  have hqb : q ≤ b.size := by omega
  have hall : stepL l m n q = mixL l m n := by rw [hq, ← hmn]; exact stepL_all l m n
  rw [← hl, ← hm]
  have HL := Lib.hid hl
  have HN := Lib.hid hln
  have HM := Lib.hid hm
  have HMN := Lib.hid hmn
  have HALL := Lib.hid hall
  have HQ := Lib.hid hq
  unfold maxLen at ha hb
  clear hl hln hm hmn hall hq
  go_enter Try.func118, Try.ntmps118
  go_wp2_with (refine wpList_make_full _ rfl _ _ 100 rfl w.heap.size 5 i0 (.int .u8 0) 1 Try.underlying100 hi hz0 hz1 _ _ _ _ n rfl rfl rfl rfl (by rw [hz2]; omega) (by unfold maxLen; omega) (Nat.le_refl _) ?_; intro w1 hown hgrow; rw [made_bytes] at hown; refine Hid.out ?_)
  refine Lib.hid ?_
  have bb : Below w.heap.size w w1 := (Below.refl _ _).grown hgrow (Nat.le_refl _) (fun k e => by cases e)
  obtain ⟨w2, hcp, ho2, hg2⟩ := own_copy hown a
  have b2 : Below w.heap.size w w2 := bb.grown hg2 (by have := bb.size; omega) (fun k e => by cases e; exact Nat.le_refl _)
  rw [← HL.out, ← HN.out, stepL_zero l m n _ rfl] at ho2
  clear hown hgrow bb hg2
  go_wp2_with (refine wpList_copy_text rfl (.tmp 11) (.tmp 12) rfl (.slice (some ⟨w.heap.size, 0, none⟩) n n) a rfl rfl _ _ hcp ?_; refine Hid.out ?_)
  refine Lib.hid ?_
  clear hcp hqn hqb
  by_cases hcase : b.size < n
  · have hc1 : (b.size : Int) < (n : Int) := by omega
    go_wp2_with fail
    go_loopw [18] (fun i wr => ∃ k : Nat, k ≤ b.size ∧ i = .int .i64 (k : Int) ∧ wr.ownsRow w.heap.size 5 1 (.slice (some ⟨w.heap.size, 0, none⟩) n n) n (cellsOf (stepL l m n k)) ∧ Below w.heap.size w wr) (fun i _ => b.size - (intOf i).toNat)
    case atStart => exact ⟨0, Nat.zero_le _, rfl, ho2, b2⟩
    case round =>
      clear ho2 b2
      obtain ⟨k, hk, rfl, ho, hbw⟩ := hrel
      by_cases hlt : k < b.size
      · have hkn : k < n := by omega
        have hkb : k < b.size := by omega
        have hkn' : (k : Int) < (n : Int) := by omega
        have hkb' : (k : Int) < (b.size : Int) := by omega
        have hlen := ho.1
        have hck : wr.cell? ⟨w.heap.size, k, none⟩ = some (.int .u8 ((l.getD k 0).toNat : Int)) := by
          rw [ho.cellAt k (by omega)]
          have e := stepL_at l m n k k hkn
          rw [if_neg (by omega)] at e
          unfold cellsOf
          rw [List.getElem?_map, e]
          rfl
        have hfk := ho.frozenAt k
        have hbk : b[k] = m.getD k 0 := by
          rw [at_getD m k (by rw [HMN.out]; exact hkb)]
          simp only [HM.out]
          rfl
        have hx := xor_u8 (l.getD k 0) b[k]
        have hxe : l.getD k 0 ^^^ b[k] = l.getD k 0 ^^^ m.getD k 0 := by rw [hbk]
        rw [hxe] at hx
        have hst := (ho.stored k (.int .u8 ((l.getD k 0 ^^^ m.getD k 0).toNat : Int))).1
        rw [stepL_set l m n k hkn] at hst
        obtain ⟨c, hc⟩ : ∃ c, c = l.getD k 0 ^^^ m.getD k 0 := ⟨_, rfl⟩
        obtain ⟨y, hy⟩ : ∃ y, y = l.getD k 0 := ⟨_, rfl⟩
        rw [← hc, ← hy] at hx
        rw [← hc] at hst
        rw [← hy] at hck
        have B1 : Below w.heap.size w (wr.setCell ⟨w.heap.size, k, none⟩ (.int .u8 (c.toNat : Int))) := hbw.setCell (p := ⟨w.heap.size, k, none⟩) (Nat.le_refl _) _
        clear hc hy hlen hbk hxe ho hbw
        go_wp2_with fail
        go_region_with (fail)
        all_goals
          go_wp2_with fail
          go_roundw
          case rel => first | exact ⟨k + 1, by omega, by go_num, hst.drew, B1.drew⟩ | exact ⟨k + 1, by omega, by go_num, hst, B1⟩
          case measure => simp [intOf]; omega
      · have hke : k = b.size := by omega
        have hqe : q = b.size := by have := HQ.out; omega
        have hcv := conv_own ho
        have hfin : stepL l m n k = mixL l m n := by rw [hke]; have e := HALL.out; rw [hqe] at e; exact e
        rw [hfin] at hcv
        clear hke hqe hfin
        go_wp2_with fail
        go_ret
        exact ⟨rfl, hbw⟩
  · have hc1 : ¬ (b.size : Int) < (n : Int) := by omega
    go_wp2_with fail
    go_loopw [18] (fun i wr => ∃ k : Nat, k ≤ n ∧ i = .int .i64 (k : Int) ∧ wr.ownsRow w.heap.size 5 1 (.slice (some ⟨w.heap.size, 0, none⟩) n n) n (cellsOf (stepL l m n k)) ∧ Below w.heap.size w wr) (fun i _ => n - (intOf i).toNat)
    case atStart => exact ⟨0, Nat.zero_le _, rfl, ho2, b2⟩
    case round =>
      clear ho2 b2
      obtain ⟨k, hk, rfl, ho, hbw⟩ := hrel
      by_cases hlt : k < n
      · have hkn : k < n := by omega
        have hkb : k < b.size := by omega
        have hkn' : (k : Int) < (n : Int) := by omega
        have hkb' : (k : Int) < (b.size : Int) := by omega
        have hlen := ho.1
        have hck : wr.cell? ⟨w.heap.size, k, none⟩ = some (.int .u8 ((l.getD k 0).toNat : Int)) := by
          rw [ho.cellAt k (by omega)]
          have e := stepL_at l m n k k hkn
          rw [if_neg (by omega)] at e
          unfold cellsOf
          rw [List.getElem?_map, e]
          rfl
        have hfk := ho.frozenAt k
        have hbk : b[k] = m.getD k 0 := by
          rw [at_getD m k (by rw [HMN.out]; exact hkb)]
          simp only [HM.out]
          rfl
        have hx := xor_u8 (l.getD k 0) b[k]
        have hxe : l.getD k 0 ^^^ b[k] = l.getD k 0 ^^^ m.getD k 0 := by rw [hbk]
        rw [hxe] at hx
        have hst := (ho.stored k (.int .u8 ((l.getD k 0 ^^^ m.getD k 0).toNat : Int))).1
        rw [stepL_set l m n k hkn] at hst
        obtain ⟨c, hc⟩ : ∃ c, c = l.getD k 0 ^^^ m.getD k 0 := ⟨_, rfl⟩
        obtain ⟨y, hy⟩ : ∃ y, y = l.getD k 0 := ⟨_, rfl⟩
        rw [← hc, ← hy] at hx
        rw [← hc] at hst
        rw [← hy] at hck
        have B1 : Below w.heap.size w (wr.setCell ⟨w.heap.size, k, none⟩ (.int .u8 (c.toNat : Int))) := hbw.setCell (p := ⟨w.heap.size, k, none⟩) (Nat.le_refl _) _
        clear hc hy hlen hbk hxe ho hbw
        go_wp2_with fail
        go_region_with (fail)
        all_goals
          go_wp2_with fail
          go_roundw
          case rel => first | exact ⟨k + 1, by omega, by go_num, hst.drew, B1.drew⟩ | exact ⟨k + 1, by omega, by go_num, hst, B1⟩
          case measure => simp [intOf]; omega
      · have hke : k = n := by omega
        have hqe : q = n := by have := HQ.out; omega
        have hcv := conv_own ho
        have hfin : stepL l m n k = mixL l m n := by rw [hke]; have e := HALL.out; rw [hqe] at e; exact e
        rw [hfin] at hcv
        clear hke hqe hfin
        go_wp2_with fail
        go_ret
        exact ⟨rfl, hbw⟩
end Go.Proofs.Ytndckncoipkhaaa.Cut

namespace Go.Proofs.Ytndckncoipkhaaa.Cut
open Go.RowKit

def colN (k : Int) (n : Nat) : Nat := if k = 1 then n / 2 else half n
theorem col_size (k : Int) (n : Nat) (w : World) (hn : n ≤ 1048576) : Calls Try.prog 116 #[.int .i64 k, .int .i64 (n : Int)] w fun r w' => r = .returned (.int .i64 ((colN k n : Nat) : Int)) ∧ w' = w := by
  by_cases h1 : k = 1
  · subst h1
    have hd : (n : Int).tdiv 2 = ((n / 2 : Nat) : Int) := by rw [Int.tdiv_eq_ediv_of_nonneg (by omega)]; omega
    have hd2 : (n : Int) / 2 = ((n / 2 : Nat) : Int) := by omega
    have e : colN 1 n = n / 2 := rfl
    rw [e]
    obtain ⟨q, hq⟩ : ∃ q, q = n / 2 := ⟨_, rfl⟩
    rw [← hq] at hd hd2 ⊢
    clear hq e
    go_enter Try.func116, Try.ntmps116
    go_wp2
    go_ret
    exact ⟨rfl, rfl⟩
  · have hk : (k == 1) = false := by simpa using h1
    have hd : ((n : Int) + 1).tdiv 2 = ((half n : Nat) : Int) := by rw [Int.tdiv_eq_ediv_of_nonneg (by omega)]; unfold half; omega
    have hd2 : ((n : Int) + 1) / 2 = ((half n : Nat) : Int) := by unfold half; omega
    have hw := IntWalk.i64_in ((n : Int) + 1) (by omega)
    have e : colN k n = half n := if_neg h1
    rw [e]
    obtain ⟨q, hq⟩ : ∃ q, q = half n := ⟨_, rfl⟩
    rw [← hq] at hd hd2 ⊢
    clear hq e h1
    go_enter Try.func116, Try.ntmps116
    go_wp2
    go_ret
    exact ⟨rfl, rfl⟩

/-- The three columns, by their numbers. -/
def colT (l : List UInt8) (k : Int) : ByteArray := if k = 0 then strOf (colA l) else if k = 1 then strOf (colB l) else strOf (colP l)
/-- A closure over a text's columns. -/
def IsCut (W : World) (base : Nat) (F : Value) (l : List UInt8) : Prop :=
  ∃ a b c : Nat, F = .func (.func 117) #[] #[.pointer (some ⟨a, 0, none⟩), .pointer (some ⟨b, 0, none⟩), .pointer (some ⟨c, 0, none⟩)] ∧ (base ≤ a ∧ base ≤ b ∧ base ≤ c) ∧ a < W.heap.size ∧ b < W.heap.size ∧ c < W.heap.size ∧
    W.cell? ⟨a, 0, none⟩ = some (.string (strOf (colA l))) ∧ W.cell? ⟨b, 0, none⟩ = some (.string (strOf (colB l))) ∧ W.cell? ⟨c, 0, none⟩ = some (.int .i64 ((half l.length : Nat) : Int))
theorem IsCut.below {W W' : World} {base : Nat} {F : Value} {l : List UInt8} (h : IsCut W base F l) (hb : Below W.heap.size W W') : IsCut W' base F l := by
  obtain ⟨a, b, c, rfl, h0, h1, h2, h3, e1, e2, e3⟩ := h
  have hz := hb.size
  exact ⟨a, b, c, rfl, h0, by omega, by omega, by omega, (hb.cell (p := ⟨a, 0, none⟩) h1).trans e1, (hb.cell (p := ⟨b, 0, none⟩) h2).trans e2, (hb.cell (p := ⟨c, 0, none⟩) h3).trans e3⟩
theorem IsCut.grown {W W' : World} {base g : Nat} {F : Value} {l : List UInt8} (h : IsCut W base F l) (hg : W.grownBy W' (some g)) (hb : g < base) : IsCut W' base F l := by
  obtain ⟨a, b, c, rfl, h0, h1, h2, h3, e1, e2, e3⟩ := h
  have hz := hg.size
  have ne : ∀ x, base ≤ x → some x ≠ some g := fun x hx e => by injection e with e; omega
  exact ⟨a, b, c, rfl, h0, by omega, by omega, by omega, (World.cell?_of_block (a := ⟨a, 0, none⟩) (hg.block a h1 (ne a h0.1))).trans e1, (World.cell?_of_block (a := ⟨b, 0, none⟩) (hg.block b h2 (ne b h0.2.1))).trans e2, (World.cell?_of_block (a := ⟨c, 0, none⟩) (hg.block c h3 (ne c h0.2.2))).trans e3⟩
def CutPost (l : List UInt8) (w : World) (r : Ending) (w' : World) : Prop := ∃ F, r = .returned F ∧ IsCut w' w.heap.size F l ∧ Below w.heap.size w w'

theorem three_cells (w : World) (u v x : Value) (t1 t2 t3 : TypeId) :
    (((w.alloc (.cells #[u] t1)).alloc (.cells #[v] t2)).alloc (.cells #[x] t3)).cell? ⟨w.heap.size, 0, none⟩ = some u ∧
    (((w.alloc (.cells #[u] t1)).alloc (.cells #[v] t2)).alloc (.cells #[x] t3)).cell? ⟨w.heap.size + 1, 0, none⟩ = some v ∧
    (((w.alloc (.cells #[u] t1)).alloc (.cells #[v] t2)).alloc (.cells #[x] t3)).cell? ⟨w.heap.size + 1 + 1, 0, none⟩ = some x ∧
    (((w.alloc (.cells #[u] t1)).alloc (.cells #[v] t2)).alloc (.cells #[x] t3)).heap.size = w.heap.size + 3 ∧
    Below w.heap.size w (((w.alloc (.cells #[u] t1)).alloc (.cells #[v] t2)).alloc (.cells #[x] t3)) := by
  obtain ⟨w1, h1⟩ : ∃ x, x = w.alloc (.cells #[u] t1) := ⟨_, rfl⟩
  have z1 : w1.heap.size = w.heap.size + 1 := by rw [h1, World.size_alloc]
  have c1 : w1.cell? ⟨w.heap.size, 0, none⟩ = some u := by rw [h1, World.cell?_alloc_mark]; rfl
  have b1 : Below w.heap.size w w1 := by rw [h1]; exact bel_new (Below.refl _ _) _
  rw [← h1]
  obtain ⟨w2, h2⟩ : ∃ x, x = w1.alloc (.cells #[v] t2) := ⟨_, rfl⟩
  have z2 : w2.heap.size = w1.heap.size + 1 := by rw [h2, World.size_alloc]
  have c2 : w2.cell? ⟨w1.heap.size, 0, none⟩ = some v := by rw [h2, World.cell?_alloc_mark]; rfl
  have b2 : Below w1.heap.size w1 w2 := by rw [h2]; exact bel_new (Below.refl _ _) _
  rw [← h2]
  obtain ⟨w3, h3⟩ : ∃ y, y = w2.alloc (.cells #[x] t3) := ⟨_, rfl⟩
  have z3 : w3.heap.size = w2.heap.size + 1 := by rw [h3, World.size_alloc]
  have c3 : w3.cell? ⟨w2.heap.size, 0, none⟩ = some x := by rw [h3, World.cell?_alloc_mark]; rfl
  have b3 : Below w2.heap.size w2 w3 := by rw [h3]; exact bel_new (Below.refl _ _) _
  rw [← h3]
  refine ⟨?_, ?_, ?_, by omega, bel_then (bel_then b1 b2) b3⟩
  · exact ((bel_then b2 b3).cell (p := ⟨w.heap.size, 0, none⟩) (by show w.heap.size < _; omega)).trans c1
  · rw [← z1]
    exact (b3.cell (p := ⟨w1.heap.size, 0, none⟩) (by show w1.heap.size < _; omega)).trans c2
  · rw [← z1, ← z2]
    exact c3
theorem cut_a (w : World) (l : List UInt8) (W : World) (hb : Below (((w.alloc (.cells #[.int .i64 ((half l.length : Nat) : Int)] 3)).alloc (.cells #[.string (strOf (colA l))] 9)).alloc (.cells #[.string (strOf (colB l))] 9)).heap.size (((w.alloc (.cells #[.int .i64 ((half l.length : Nat) : Int)] 3)).alloc (.cells #[.string (strOf (colA l))] 9)).alloc (.cells #[.string (strOf (colB l))] 9)) W) :
    CutPost l w (.returned (.func (.func 117) #[] #[.pointer (some ⟨w.heap.size + 1, 0, none⟩), .pointer (some ⟨w.heap.size + 1 + 1, 0, none⟩), .pointer (some ⟨w.heap.size, 0, none⟩)])) W := by
  obtain ⟨h1, h2, h3, h4, h5⟩ := three_cells w (.int .i64 ((half l.length : Nat) : Int)) (.string (strOf (colA l))) (.string (strOf (colB l))) 3 9 9
  exact ⟨_, rfl, IsCut.below ⟨_, _, _, rfl, ⟨by omega, by omega, by omega⟩, by omega, by omega, by omega, h2, h3, h1⟩ hb, bel_then h5 hb⟩
theorem cut_b (w : World) (l : List UInt8) (W : World) (hb : Below (((w.alloc (.cells #[.int .i64 ((half l.length : Nat) : Int)] 3)).alloc (.cells #[.string (strOf (colB l))] 9)).alloc (.cells #[.string (strOf (colA l))] 9)).heap.size (((w.alloc (.cells #[.int .i64 ((half l.length : Nat) : Int)] 3)).alloc (.cells #[.string (strOf (colB l))] 9)).alloc (.cells #[.string (strOf (colA l))] 9)) W) :
    CutPost l w (.returned (.func (.func 117) #[] #[.pointer (some ⟨w.heap.size + 1 + 1, 0, none⟩), .pointer (some ⟨w.heap.size + 1, 0, none⟩), .pointer (some ⟨w.heap.size, 0, none⟩)])) W := by
  obtain ⟨h1, h2, h3, h4, h5⟩ := three_cells w (.int .i64 ((half l.length : Nat) : Int)) (.string (strOf (colB l))) (.string (strOf (colA l))) 3 9 9
  exact ⟨_, rfl, IsCut.below ⟨_, _, _, rfl, ⟨by omega, by omega, by omega⟩, by omega, by omega, by omega, h3, h2, h1⟩ hb, bel_then h5 hb⟩

set_option maxRecDepth 100000 in
set_option maxHeartbeats 2000000 in
theorem cutter_any (t : ByteArray) (w : World) (h : t.size ≤ 128) : Calls Try.prog 92 #[.string t] w (CutPost t.data.toList w) := by
  have hF := col_size 0 t.size
  have e0 : colN 0 t.size = half t.size := rfl
  have hh := half_le t.size
  have hln : t.data.toList.length = t.size := by rw [Array.length_toList]; rfl
  have e1 : t.extract 0 (half t.size) = strOf (colA t.data.toList) := by
    apply bytes_inj
    rw [strOf_toList, ext_head, ← hln]; rfl
  have e2 : t.extract (half t.size) t.size = strOf (colB t.data.toList) := by
    apply bytes_inj
    rw [strOf_toList, ext_list, ← hln]; rfl
  rw [e0] at hF
  have hmf : ∀ (fn : Fn) (first cap : Array Value) (w : World), (Instr.makeFunc fn first cap).run Try.prog w = .ok (.func fn first cap) w := fun _ _ _ _ => rfl
  have hlh : half t.data.toList.length = half t.size := by rw [hln]
  obtain ⟨H, hH⟩ : ∃ H, H = half t.size := ⟨_, rfl⟩
  rw [← hH] at hF hh e1 e2 hlh
  have hH1 : (H : Int) ≤ (t.size : Int) := by omega
  have E1 := Lib.hid e1
  have E2 := Lib.hid e2
  have E3 := Lib.hid hlh
  clear hH e0 hln e1 e2 hlh
  go_enter Try.func92, Try.ntmps92
  go_wp2_with (go_at_call 116; refine (hF _ (by omega)).mono ?_; rintro r w' ⟨rfl, rfl⟩)
  go_region_with (fail)
  all_goals go_wp2_with fail
  all_goals go_ret
  all_goals rw [E1.out, E2.out, ← E3.out]
  all_goals first
    | exact cut_a w' t.data.toList _ ((Below.refl _ _).drew)
    | exact cut_b w' t.data.toList _ ((Below.refl _ _).drew)
    | exact cut_a w' t.data.toList _ (Below.refl _ _)
    | exact cut_b w' t.data.toList _ (Below.refl _ _)

set_option maxRecDepth 100000 in
set_option maxHeartbeats 2000000 in
theorem cut_col (l : List UInt8) (k : Int) (a b c : Nat) (w : World) (hl : l.length ≤ 128)
    (e1 : w.cell? ⟨a, 0, none⟩ = some (.string (strOf (colA l)))) (e2 : w.cell? ⟨b, 0, none⟩ = some (.string (strOf (colB l)))) (e3 : w.cell? ⟨c, 0, none⟩ = some (.int .i64 ((half l.length : Nat) : Int))) :
    Calls Try.prog 117 #[.int .i64 k, .pointer (some ⟨a, 0, none⟩), .pointer (some ⟨b, 0, none⟩), .pointer (some ⟨c, 0, none⟩)] w fun r w' => r = .returned (.string (colT l k)) ∧ Below w.heap.size w w' := by
  have hh := half_le l.length
  have hM := impl_mixed (strOf (colA l)) (strOf (colB l)) (half l.length) w (by omega) (by rw [strOf_size, colA_len]; unfold maxLen; omega) (by rw [strOf_size, colB_len]; unfold maxLen; omega)
  rw [strOf_toList, strOf_toList] at hM
  have hp : strOf (mixL (colA l) (colB l) (half l.length)) = strOf (colP l) := rfl
  rw [hp] at hM
  unfold colT
  obtain ⟨x, hx⟩ : ∃ x, x = strOf (colA l) := ⟨_, rfl⟩
  obtain ⟨y, hy⟩ : ∃ x, x = strOf (colB l) := ⟨_, rfl⟩
  obtain ⟨z, hz⟩ : ∃ x, x = strOf (colP l) := ⟨_, rfl⟩
  obtain ⟨h, hhe⟩ : ∃ x, x = half l.length := ⟨_, rfl⟩
  rw [← hx] at e1
  rw [← hy] at e2
  rw [← hhe] at e3
  simp only [← hx, ← hy, ← hz, ← hhe] at hM ⊢
  clear hx hy hz hhe hh hp
  by_cases h0 : k = 0
  · rw [if_pos h0]
    subst h0
    clear hM
    go_enter Try.func117, Try.ntmps117
    go_wp2
    go_ret
    exact ⟨rfl, Below.refl _ _⟩
  · rw [if_neg h0]
    have hk0 : (k == 0) = false := by simpa using h0
    by_cases h1 : k = 1
    · rw [if_pos h1]
      subst h1
      clear hM h0
      go_enter Try.func117, Try.ntmps117
      go_wp2
      go_ret
      exact ⟨rfl, Below.refl _ _⟩
    · rw [if_neg h1]
      have hk1 : (k == 1) = false := by simpa using h1
      clear h0 h1
      go_enter Try.func117, Try.ntmps117
      go_wp2_with (go_at_call 118; refine hM.mono ?_; rintro r w' ⟨rfl, hb⟩)
      go_ret
      exact ⟨rfl, hb⟩
end Go.Proofs.Ytndckncoipkhaaa.Cut
