/-
  Disks as lists: whether one is valid, what is read from it, and what a power failure leaves.
-/
import Derived.Laws.Rows
import Derived.Lib.Hide
namespace Go.Proofs.Ytndckncoipkhaaa.Cut

structure Wt where
  num : Int
  text : ByteArray
structure Dk where
  cells : List ByteArray
  waits : List Wt
  gone : Bool

def strOf (l : List UInt8) : ByteArray := ⟨l.toArray⟩
def none8 : ByteArray := ⟨#[]⟩
theorem none8_size : none8.size = 0 := rfl

def WtOk (x : Wt) : Prop := 0 ≤ x.num ∧ x.num ≤ 63 ∧ x.text.size ≤ 200
instance (x : Wt) : Decidable (WtOk x) := by unfold WtOk; infer_instance
def DkOk (d : Dk) : Prop := d.cells.length = 64 ∧ d.waits.length ≤ 120 ∧ (d.gone = true → d.waits.length = 0 ∧ ∀ s ∈ d.cells, s.size = 0) ∧ (∀ s ∈ d.cells, s.size ≤ 200) ∧ ∀ x ∈ d.waits, WtOk x
instance (d : Dk) : Decidable (DkOk d) := by unfold DkOk; infer_instance
/-- Whether a disk is valid. -/
def okD (d : Dk) : Bool := decide (DkOk d)
theorem okD_iff (d : Dk) : okD d = true ↔ DkOk d := by simp [okD]
theorem okD_no {d : Dk} (h : ¬ DkOk d) : okD d = false := by simp [okD, h]

/-- What the first k waiting writes, from the last on, say of a cell. -/
def rd (ws : List Wt) (n : Int) (z : ByteArray) : Nat → ByteArray
  | 0 => z
  | k + 1 => match ws[k]? with
    | some x => if x.num = n then x.text else rd ws n z k
    | none => rd ws n z k
theorem rd_next (ws : List Wt) (n : Int) (z : ByteArray) (k : Nat) (h : k < ws.length) : rd ws n z (k + 1) = if ws[k].num = n then ws[k].text else rd ws n z k := by
  simp [rd, List.getElem?_eq_getElem h]
/-- The text of a cell, if all is written. -/
def latest (d : Dk) (n : Int) : ByteArray := rd d.waits n (d.cells.getD n.toNat none8) d.waits.length
def readD (d : Dk) (n : Int) : ByteArray × Bool := if DkOk d ∧ d.gone = false ∧ 0 ≤ n ∧ n ≤ 63 then (latest d n, true) else (none8, false)

/-- Bit i mod 60. -/
def bitM (mask : Int) (i : Nat) : Bool := decide (mask / 2 ^ (i % 60) % 2 = 1)
def torn (old text : ByteArray) : ByteArray := strOf (text.data.toList.take (text.size / 2) ++ old.data.toList.drop (text.size / 2))
def stp (mask tear : Int) (i : Nat) (x : Wt) (cs : List ByteArray) : List ByteArray :=
  if bitM mask i = true then cs.set x.num.toNat x.text else if (i : Int) = tear then cs.set x.num.toNat (torn (cs.getD x.num.toNat none8) x.text) else cs
/-- The cells behind the first k waiting writes. -/
def st (ws : List Wt) (mask tear : Int) (cs : List ByteArray) : Nat → List ByteArray
  | 0 => cs
  | k + 1 => match ws[k]? with
    | some x => stp mask tear k x (st ws mask tear cs k)
    | none => st ws mask tear cs k
theorem st_next (ws : List Wt) (mask tear : Int) (cs : List ByteArray) (k : Nat) (h : k < ws.length) : st ws mask tear cs (k + 1) = stp mask tear k ws[k] (st ws mask tear cs k) := by
  simp [st, List.getElem?_eq_getElem h]
theorem stp_len (mask tear : Int) (i : Nat) (x : Wt) (cs : List ByteArray) : (stp mask tear i x cs).length = cs.length := by
  unfold stp
  split
  · simp
  · split <;> simp
theorem st_len (ws : List Wt) (mask tear : Int) (cs : List ByteArray) (k : Nat) : (st ws mask tear cs k).length = cs.length := by
  induction k with
  | zero => rfl
  | succ k ih =>
    unfold st
    split
    · rw [stp_len, ih]
    · exact ih
theorem torn_size (old text : ByteArray) : (torn old text).size ≤ max old.size text.size := by
  unfold torn strOf
  simp only [ByteArray.size, List.size_toArray, List.length_append, List.length_take, List.length_drop, Array.length_toList]
  omega
def SmallC (cs : List ByteArray) : Prop := ∀ s ∈ cs, s.size ≤ 200
theorem small_set {cs : List ByteArray} (h : SmallC cs) (i : Nat) {s : ByteArray} (hs : s.size ≤ 200) : SmallC (cs.set i s) := fun t ht => by
  rcases List.mem_or_eq_of_mem_set ht with h1 | h1
  · exact h t h1
  · rw [h1]; exact hs
theorem small_getD {cs : List ByteArray} (h : SmallC cs) (i : Nat) : (cs.getD i none8).size ≤ 200 := by
  rw [List.getD_eq_getElem?_getD]
  cases e : cs[i]? with
  | none => exact Nat.zero_le _
  | some s => exact h s (List.mem_of_getElem? e)
theorem stp_small {mask tear : Int} {i : Nat} {x : Wt} {cs : List ByteArray} (h : SmallC cs) (hx : WtOk x) : SmallC (stp mask tear i x cs) := by
  unfold stp
  split
  · exact small_set h _ hx.2.2
  · split
    · refine small_set h _ ?_
      have a := torn_size (cs.getD x.num.toNat none8) x.text
      have b := small_getD h x.num.toNat
      have c := hx.2.2
      omega
    · exact h
theorem st_small {ws : List Wt} {mask tear : Int} {cs : List ByteArray} (h : SmallC cs) (hw : ∀ x ∈ ws, WtOk x) (k : Nat) : SmallC (st ws mask tear cs k) := by
  induction k with
  | zero => exact h
  | succ k ih =>
    unfold st
    split
    · rename_i x hx
      exact stp_small ih (hw x (List.mem_of_getElem? hx))
    · exact ih
def blank : List ByteArray := List.replicate 64 none8
def dk0 : Dk := ⟨[], [], false⟩
def newD : Dk := ⟨blank, [], false⟩
def loseD : Dk := ⟨blank, [], true⟩
def crashD (d : Dk) (mask tear : Int) : Dk := if DkOk d ∧ 0 ≤ mask then ⟨st d.waits mask tear d.cells d.waits.length, [], d.gone⟩ else dk0
def flushD (d : Dk) : Dk := crashD d 1152921504606846975 (-1)
def writeD (d : Dk) (n : Int) (t : ByteArray) : Dk × Bool :=
  if DkOk d then (if d.gone = false ∧ 0 ≤ n ∧ n ≤ 63 ∧ t.size ≤ 200 ∧ d.waits.length < 120 then (⟨d.cells, d.waits ++ [⟨n, t⟩], d.gone⟩, true) else (d, false)) else (dk0, false)
def spoilD (d : Dk) (n : Int) (t : ByteArray) : Dk × Bool :=
  if DkOk d ∧ d.gone = false ∧ 0 ≤ n ∧ n ≤ 63 ∧ t.size ≤ 200 then (⟨d.cells.set n.toNat t, d.waits, d.gone⟩, true) else (dk0, false)
theorem bit_all (i : Nat) : bitM 1152921504606846975 i = true := by
  have h : ∀ j, j < 60 → (1152921504606846975 : Int) / 2 ^ j % 2 = 1 := by decide
  simp [bitM, h (i % 60) (Nat.mod_lt _ (by decide))]
end Go.Proofs.Ytndckncoipkhaaa.Cut
