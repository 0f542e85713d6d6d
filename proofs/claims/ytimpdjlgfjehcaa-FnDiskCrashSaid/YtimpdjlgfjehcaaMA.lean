/-
  Disks as lists and in memory: their weight, a copy, whether two are equal, the marks of a law.
-/
import Derived.Laws.Rows
import Derived.Lib.Hide
import Derived.Test.YtimpdjlgfjehcaaProg
import Derived.BigQuiet
import Derived.Deep.QuietTactic
import Derived.Laws.OwnMore
import Derived.OwnWalk
import Derived.Below
import Derived.Deep.AppendLies
import Derived.Deep.Draws
import Derived.Deep.MidRow
import Derived.Deep.LoopGhost
import Derived.Deep.DeepCutAuto
import Derived.Deep.CutBlock
import Derived.Maps.AppendAt
import Derived.RegionTactic
import Derived.IntWalk
import Derived.WalkKit
import Derived.WalkSpells
import Derived.Lib.ItoaNum
import Derived.Laws.BytesArg
import Derived.Deep.RegionWith
import Derived.Deep.RegionHeld3
import Derived.WalkSmall

namespace Go.Proofs.Ytimpdjlgfjehcaa

structure Wt where
  num : Int
  text : ByteArray
structure Dk where
  cells : List ByteArray
  waits : List Wt
  gone : Bool

def strOf (l : List UInt8) : ByteArray := ⟨l.toArray⟩
def none8 : ByteArray := ⟨#[]⟩
theorem none8_size : none8.size = 0 := rfl

def WtOk (x : Wt) : Prop := 0 ≤ x.num ∧ x.num ≤ 63 ∧ x.text.size ≤ 200
instance (x : Wt) : Decidable (WtOk x) := by unfold WtOk; infer_instance
def DkOk (d : Dk) : Prop := d.cells.length = 64 ∧ d.waits.length ≤ 120 ∧ (d.gone = true → d.waits.length = 0 ∧ ∀ s ∈ d.cells, s.size = 0) ∧ (∀ s ∈ d.cells, s.size ≤ 200) ∧ ∀ x ∈ d.waits, WtOk x
instance (d : Dk) : Decidable (DkOk d) := by unfold DkOk; infer_instance
/-- Whether a disk is valid. -/
def okD (d : Dk) : Bool := decide (DkOk d)
theorem okD_iff (d : Dk) : okD d = true ↔ DkOk d := by simp [okD]
theorem okD_no {d : Dk} (h : ¬ DkOk d) : okD d = false := by simp [okD, h]

/-- What the first k waiting writes, from the last on, say of a cell. -/
def rd (ws : List Wt) (n : Int) (z : ByteArray) : Nat → ByteArray
  | 0 => z
  | k + 1 => match ws[k]? with
    | some x => if x.num = n then x.text else rd ws n z k
    | none => rd ws n z k
theorem rd_next (ws : List Wt) (n : Int) (z : ByteArray) (k : Nat) (h : k < ws.length) : rd ws n z (k + 1) = if ws[k].num = n then ws[k].text else rd ws n z k := by
  simp [rd, List.getElem?_eq_getElem h]
/-- The text of a cell, if all is written. -/
def latest (d : Dk) (n : Int) : ByteArray := rd d.waits n (d.cells.getD n.toNat none8) d.waits.length
def readD (d : Dk) (n : Int) : ByteArray × Bool := if DkOk d ∧ d.gone = false ∧ 0 ≤ n ∧ n ≤ 63 then (latest d n, true) else (none8, false)

/-- Bit i mod 60. -/
def bitM (mask : Int) (i : Nat) : Bool := decide (mask / 2 ^ (i % 60) % 2 = 1)
def torn (old text : ByteArray) : ByteArray := strOf (text.data.toList.take (text.size / 2) ++ old.data.toList.drop (text.size / 2))
def stp (mask tear : Int) (i : Nat) (x : Wt) (cs : List ByteArray) : List ByteArray :=
  if bitM mask i = true then cs.set x.num.toNat x.text else if (i : Int) = tear then cs.set x.num.toNat (torn (cs.getD x.num.toNat none8) x.text) else cs
/-- The cells behind the first k waiting writes. -/
def st (ws : List Wt) (mask tear : Int) (cs : List ByteArray) : Nat → List ByteArray
  | 0 => cs
  | k + 1 => match ws[k]? with
    | some x => stp mask tear k x (st ws mask tear cs k)
    | none => st ws mask tear cs k
theorem st_next (ws : List Wt) (mask tear : Int) (cs : List ByteArray) (k : Nat) (h : k < ws.length) : st ws mask tear cs (k + 1) = stp mask tear k ws[k] (st ws mask tear cs k) := by
  simp [st, List.getElem?_eq_getElem h]
theorem stp_len (mask tear : Int) (i : Nat) (x : Wt) (cs : List ByteArray) : (stp mask tear i x cs).length = cs.length := by
  unfold stp
  split
  · simp
  · split <;> simp
theorem st_len (ws : List Wt) (mask tear : Int) (cs : List ByteArray) (k : Nat) : (st ws mask tear cs k).length = cs.length := by
  induction k with
  | zero => rfl
  | succ k ih =>
    unfold st
    split
    · rw [stp_len, ih]
    · exact ih
theorem torn_size (old text : ByteArray) : (torn old text).size ≤ max old.size text.size := by
  unfold torn strOf
  simp only [ByteArray.size, List.size_toArray, List.length_append, List.length_take, List.length_drop, Array.length_toList]
  omega
def SmallC (cs : List ByteArray) : Prop := ∀ s ∈ cs, s.size ≤ 200
theorem small_set {cs : List ByteArray} (h : SmallC cs) (i : Nat) {s : ByteArray} (hs : s.size ≤ 200) : SmallC (cs.set i s) := fun t ht => by
  rcases List.mem_or_eq_of_mem_set ht with h1 | h1
  · exact h t h1
  · rw [h1]; exact hs
theorem small_getD {cs : List ByteArray} (h : SmallC cs) (i : Nat) : (cs.getD i none8).size ≤ 200 := by
  rw [List.getD_eq_getElem?_getD]
  cases e : cs[i]? with
  | none => exact Nat.zero_le _
  | some s => exact h s (List.mem_of_getElem? e)
theorem stp_small {mask tear : Int} {i : Nat} {x : Wt} {cs : List ByteArray} (h : SmallC cs) (hx : WtOk x) : SmallC (stp mask tear i x cs) := by
  unfold stp
  split
  · exact small_set h _ hx.2.2
  · split
    · refine small_set h _ ?_
      have a := torn_size (cs.getD x.num.toNat none8) x.text
      have b := small_getD h x.num.toNat
      have c := hx.2.2
      omega
    · exact h
theorem st_small {ws : List Wt} {mask tear : Int} {cs : List ByteArray} (h : SmallC cs) (hw : ∀ x ∈ ws, WtOk x) (k : Nat) : SmallC (st ws mask tear cs k) := by
  induction k with
  | zero => exact h
  | succ k ih =>
    unfold st
    split
    · rename_i x hx
      exact stp_small ih (hw x (List.mem_of_getElem? hx))
    · exact ih
def blank : List ByteArray := List.replicate 64 none8
def dk0 : Dk := ⟨[], [], false⟩
def newD : Dk := ⟨blank, [], false⟩
def loseD : Dk := ⟨blank, [], true⟩
def crashD (d : Dk) (mask tear : Int) : Dk := if DkOk d ∧ 0 ≤ mask then ⟨st d.waits mask tear d.cells d.waits.length, [], d.gone⟩ else dk0
def flushD (d : Dk) : Dk := crashD d 1152921504606846975 (-1)
def writeD (d : Dk) (n : Int) (t : ByteArray) : Dk × Bool :=
  if DkOk d then (if d.gone = false ∧ 0 ≤ n ∧ n ≤ 63 ∧ t.size ≤ 200 ∧ d.waits.length < 120 then (⟨d.cells, d.waits ++ [⟨n, t⟩], d.gone⟩, true) else (d, false)) else (dk0, false)
def spoilD (d : Dk) (n : Int) (t : ByteArray) : Dk × Bool :=
  if DkOk d ∧ d.gone = false ∧ 0 ≤ n ∧ n ≤ 63 ∧ t.size ≤ 200 then (⟨d.cells.set n.toNat t, d.waits, d.gone⟩, true) else (dk0, false)
theorem bit_all (i : Nat) : bitM 1152921504606846975 i = true := by
  have h : ∀ j, j < 60 → (1152921504606846975 : Int) / 2 ^ j % 2 = 1 := by decide
  simp [bitM, h (i % 60) (Nat.mod_lt _ (by decide))]
end Go.Proofs.Ytimpdjlgfjehcaa

namespace Go.Proofs.Ytimpdjlgfjehcaa
open Go.RowKit

def strCells (ss : List ByteArray) : List Value := ss.map Value.string
theorem strCells_len (ss : List ByteArray) : (strCells ss).length = ss.length := by simp [strCells]
theorem strCells_app (a b : List ByteArray) : strCells (a ++ b) = strCells a ++ strCells b := by simp [strCells]
theorem strCells_at (ss : List ByteArray) (k : Nat) (h : k < ss.length) : (strCells ss)[k]? = some (.string ss[k]) := by simp [strCells, h]
theorem strCells_one (ss : List ByteArray) : ∀ u ∈ strCells ss, u.oneCell' = true := fun u hu => by
  obtain ⟨x, _, rfl⟩ := List.mem_map.1 hu
  rfl
def Wt.cells (x : Wt) : List Value := [.int .i64 x.num, .string x.text]
def wtCells (ws : List Wt) : List Value := ws.flatMap Wt.cells
theorem wtCells_len (ws : List Wt) : (wtCells ws).length = ws.length * 2 := by
  induction ws with
  | nil => rfl
  | cons x ws ih =>
    show (Wt.cells x ++ wtCells ws).length = _
    rw [List.length_append, ih, List.length_cons]
    show 2 + _ = _
    omega
theorem wtCells_app (a b : List Wt) : wtCells (a ++ b) = wtCells a ++ wtCells b := by simp [wtCells]
theorem wtCells_at : ∀ (ws : List Wt) (k : Nat) (h : k < ws.length), (wtCells ws)[k * 2]? = some (.int .i64 ws[k].num) ∧ (wtCells ws)[k * 2 + 1]? = some (.string ws[k].text)
  | x :: ws, 0, _ => ⟨rfl, rfl⟩
  | x :: ws, k + 1, h => by
    have ih := wtCells_at ws k (by simpa using h)
    constructor
    · show (Wt.cells x ++ wtCells ws)[(k + 1) * 2]? = _
      rw [List.getElem?_append_right (by show 2 ≤ _; omega)]
      show (wtCells ws)[(k + 1) * 2 - 2]? = _
      rw [show (k + 1) * 2 - 2 = k * 2 by omega]
      exact ih.1
    · show (Wt.cells x ++ wtCells ws)[(k + 1) * 2 + 1]? = _
      rw [List.getElem?_append_right (by show 2 ≤ _; omega)]
      show (wtCells ws)[(k + 1) * 2 + 1 - 2]? = _
      rw [show (k + 1) * 2 + 1 - 2 = k * 2 + 1 by omega]
      exact ih.2
theorem wtCells_one (ws : List Wt) : ∀ u ∈ wtCells ws, u.oneCell' = true := fun u hu => by
  obtain ⟨x, _, hx⟩ := List.mem_flatMap.1 hu
  simp only [Wt.cells, List.mem_cons, List.not_mem_nil, or_false] at hx
  rcases hx with rfl | rfl <;> rfl

/-- The cells xs lie behind the slice address A. -/
def Lies (w : World) (A : Option Addr) (xs : List Value) : Prop :=
  0 < xs.length → ∃ b off, A = some ⟨b, off, none⟩ ∧ b < w.heap.size ∧ ∀ j v, xs[j]? = some v → w.cell? ⟨b, off + j, none⟩ = some v
theorem Lies.nil (w : World) (A : Option Addr) : Lies w A [] := fun h => absurd h (by simp)
theorem Lies.below {w w' : World} {A : Option Addr} {xs : List Value} (h : Lies w A xs) (hb : Below w.heap.size w w') : Lies w' A xs := by
  intro h0
  obtain ⟨b, off, rfl, hlt, hc⟩ := h h0
  exact ⟨b, off, rfl, Nat.lt_of_lt_of_le hlt hb.size, fun j v hj => (hb.cell (p := ⟨b, off + j, none⟩) hlt).trans (hc j v hj)⟩
theorem Lies.alloc {w : World} {A : Option Addr} {xs : List Value} (h : Lies w A xs) (o : Obj) : Lies (w.alloc o) A xs := h.below ((Below.refl _ _).alloc (Nat.le_refl _) o)
theorem Lies.str {w : World} {A : Option Addr} {ss : List ByteArray} (h : Lies w A (strCells ss)) (k : Nat) (hk : k < ss.length) : ∃ b off, A = some ⟨b, off, none⟩ ∧ b < w.heap.size ∧ w.cell? ⟨b, off + k, none⟩ = some (.string ss[k]) := by
  obtain ⟨b, off, e, hlt, hc⟩ := h (by rw [strCells_len]; omega)
  exact ⟨b, off, e, hlt, hc k _ (strCells_at ss k hk)⟩
theorem Lies.wt {w : World} {A : Option Addr} {ws : List Wt} (h : Lies w A (wtCells ws)) (k : Nat) (hk : k < ws.length) : ∃ b off, A = some ⟨b, off, none⟩ ∧ b < w.heap.size ∧ w.cell? ⟨b, off + k * 2, none⟩ = some (.int .i64 ws[k].num) ∧ w.cell? ⟨b, off + k * 2 + 1, none⟩ = some (.string ws[k].text) := by
  obtain ⟨b, off, e, hlt, hc⟩ := h (by rw [wtCells_len]; omega)
  have a := wtCells_at ws k hk
  refine ⟨b, off, e, hlt, hc _ _ a.1, ?_⟩
  rw [show off + k * 2 + 1 = off + (k * 2 + 1) by omega]
  exact hc _ _ a.2
/-- A row of the call's own leads to its cells. -/
theorem own_lies {w : World} {base : Nat} {t : TypeId} {sz n : Nat} {v : Value} {xs : List Value} (h : w.ownsRow base t sz v n xs) : ∃ A c, v = .slice A n c ∧ Lies w A xs := by
  have hl := h.1
  have hc := fun g hg => h.cells (g := g) hg
  have hlt := fun g hg => h.lt g hg
  rcases h.2 with ⟨rfl, rfl⟩ | ⟨g, cap, cur, rfl, _⟩
  · refine ⟨none, 0, rfl, fun h0 => ?_⟩
    rw [hl] at h0
    omega
  · refine ⟨some ⟨g, 0, none⟩, cap, rfl, fun _ => ⟨g, 0, rfl, (hlt g rfl).2, fun j v hj => ?_⟩⟩
    have := hc g rfl j v hj
    rwa [Addr.add_mid] at this
theorem own_bel {w w' : World} {base : Nat} {t : TypeId} {sz n : Nat} {v : Value} {xs : List Value} (h : w.ownsRow base t sz v n xs) (hb : Below w.heap.size w w') : w'.ownsRow base t sz v n xs := by
  refine h.kept (row := none) ⟨hb.os, hb.tape, hb.output, hb.size, fun k hk _ => hb.block k hk⟩ ?_
  cases v.ownBlock with
  | none => exact .inl rfl
  | some k => exact .inr (by simp)
theorem bel_then {a b c : World} (h : Below a.heap.size a b) (k : Below b.heap.size b c) : Below a.heap.size a c := h.trans (k.mono h.size)
theorem bel_new {a b : World} (h : Below a.heap.size a b) (o : Obj) : Below a.heap.size a (b.alloc o) := h.alloc h.size o
end Go.Proofs.Ytimpdjlgfjehcaa

namespace Go.Proofs.Ytimpdjlgfjehcaa
open Go.RowKit

theorem strOf_toList (l : List UInt8) : (strOf l).data.toList = l := by simp [strOf]
theorem strOf_size (l : List UInt8) : (strOf l).size = l.length := by simp [strOf, ByteArray.size]
theorem bytes_inj {a b : ByteArray} (h : a.data.toList = b.data.toList) : a = b := by
  cases a; cases b
  simp at h
  rw [h]
theorem strOf_app (l m : List UInt8) : strOf l ++ strOf m = strOf (l ++ m) := by
  apply bytes_inj
  rw [strOf_toList]
  simp [strOf]
theorem add_strs (P : Program) (l m : List UInt8) (h : l.length + m.length ≤ 9223372036854775807) (w : World) : (Op.stringOp .add (strOf l) (strOf m)).run P w = .ok (.string (strOf (l ++ m))) w := by
  rw [run_string_add_sum w _ _ (by rw [strOf_size, strOf_size]; exact h), strOf_app]
theorem conv_one (w : World) (B : Nat) (x : UInt8) (h : w.cell? ⟨B, 0, none⟩ = some (.int .u8 (x.toNat : Int))) :
    (convert 22 9 (.slice (some ⟨B, 0, none⟩) 1 1)).run Try.prog w = .ok (.string (strOf [x])) w := by
  have hr := run_convert_bytes_arg (P := Try.prog) w 22 5 Try.underlying22 Try.underlying5 B 0 1 1 [(x.toNat : Int)] rfl (fun i hi => by
    obtain rfl : i = 0 := by omega
    rw [h]; rfl) 9 Try.underlying9
  rw [hr]
  congr 2
  simp [strOfNums, strOf]
theorem dec_small (u : Nat) (h : u < 10) : Lib.decDigits u = [UInt8.ofNat (48 + u)] := by rw [Lib.decDigits, dif_pos h]
theorem dec_more (u : Nat) (h : ¬ u < 10) : Lib.decDigits u = Lib.decDigits (u / 10) ++ [UInt8.ofNat (48 + u % 10)] := by rw [Lib.decDigits, dif_neg h]
theorem dig_nums (a : Int) (h0 : 0 ≤ a) (h9 : a < 10) : (48 + a : Int) = ((UInt8.ofNat (48 + a.toNat)).toNat : Int) := by
  have h : (UInt8.ofNat (48 + a.toNat)).toNat = 48 + a.toNat := by simp; omega
  rw [h]
  omega
theorem dec_length (k : Nat) : ∀ v : Nat, v < 10 ^ (k + 1) → (Lib.decDigits v).length ≤ k + 1 := by
  induction k with
  | zero =>
    intro v h
    rw [dec_small v (by simpa using h)]
    simp
  | succ k ih =>
    intro v h
    by_cases h10 : v < 10
    · rw [dec_small v h10]; simp
    · rw [dec_more v h10]
      have := ih (v / 10) (by rw [Nat.pow_succ] at h; omega)
      simp
      omega
def markL (k : Nat) : List UInt8 := 109 :: Lib.decDigits k
theorem dec_len7 (k : Nat) (h : k ≤ 9999999) : (Lib.decDigits k).length ≤ 7 := dec_length 6 k (by omega)

end Go.Proofs.Ytimpdjlgfjehcaa

namespace Go.Proofs.Ytimpdjlgfjehcaa
open Go.RowKit

def SzPost (n : Nat) (L : Int) (w : World) (e : Ending) (w' : World) : Prop := ∃ z : Int, e = .returned (.int .i64 z) ∧ Below w.heap.size w w' ∧ (0 ≤ z → (n : Int) ≤ L - z)

end Go.Proofs.Ytimpdjlgfjehcaa

namespace Go.Proofs.Ytimpdjlgfjehcaa
open Go.RowKit

theorem Try.info9 : (Try.prog.info? 9).map (fun i => (i.zero, i.size, i.bytes)) = some (some (.string ⟨#[]⟩), 1, 16) := by kernel_rfl
theorem Try.info32 : (Try.prog.info? 32).map (fun i => (i.zero, i.size, i.bytes)) = some (some (.agg #[.int .i64 0, .string ⟨#[]⟩]), 2, 24) := by kernel_rfl

theorem made_strs (n : Nat) : (madeCells (Value.cells (.string ⟨#[]⟩)) (n * 1)).toList = List.replicate n (Value.string ⟨#[]⟩) := by
  apply List.ext_getElem
  · simp [madeCells]
  · intro i h1 h2
    simp [madeCells, Value.cells, Nat.mod_one]
theorem set_next (ss : List ByteArray) (k m : Nat) (h : k < ss.length) (hm : ss.length - k = m + 1) :
    (strCells (ss.take k) ++ List.replicate (ss.length - k) (Value.string ⟨#[]⟩)).set k (Value.string ss[k]) = strCells (ss.take (k + 1)) ++ List.replicate (ss.length - (k + 1)) (Value.string ⟨#[]⟩) := by
  have hl : (strCells (ss.take k)).length = k := by simp [strCells]; omega
  rw [hm, show ss.length - (k + 1) = m by omega, List.set_append_right _ _ (by omega), hl, Nat.sub_self, List.replicate_succ, List.set_cons_zero,
    List.take_succ_eq_append_getElem h]
  unfold strCells
  rw [List.map_append, List.append_assoc]
  rfl

def ToPost (ss : List ByteArray) (w : World) (e : Ending) (w' : World) : Prop :=
  ∃ g, e = .returned (.slice (some ⟨g, 0, none⟩) ss.length ss.length) ∧ w'.ownsRow w.heap.size 9 1 (.slice (some ⟨g, 0, none⟩) ss.length ss.length) ss.length (strCells ss) ∧ Below w.heap.size w w'

def wz : List Value := [.int .i64 0, .string ⟨#[]⟩]
def wzeros (n : Nat) : List Value := (List.replicate n wz).flatten
theorem wzeros_succ (n : Nat) : wzeros (n + 1) = wz ++ wzeros n := by simp [wzeros, List.replicate_succ]
theorem wzeros_at : ∀ (n k : Nat), k < n → (wzeros n)[k * 2]? = some (.int .i64 0) ∧ (wzeros n)[k * 2 + 1]? = some (.string ⟨#[]⟩)
  | n + 1, 0, _ => by rw [wzeros_succ]; exact ⟨rfl, rfl⟩
  | n + 1, k + 1, h => by
    have ih := wzeros_at n k (by omega)
    rw [wzeros_succ]
    constructor
    · rw [List.getElem?_append_right (by show 2 ≤ _; omega)]
      show (wzeros n)[(k + 1) * 2 - 2]? = _
      rw [show (k + 1) * 2 - 2 = k * 2 by omega]
      exact ih.1
    · rw [List.getElem?_append_right (by show 2 ≤ _; omega)]
      show (wzeros n)[(k + 1) * 2 + 1 - 2]? = _
      rw [show (k + 1) * 2 + 1 - 2 = k * 2 + 1 by omega]
      exact ih.2
theorem wzeros_len (n : Nat) : (wzeros n).length = n * 2 := by
  induction n with
  | zero => rfl
  | succ n ih =>
    rw [wzeros_succ, List.length_append, ih]
    show 2 + _ = _
    omega
theorem made_waits (n : Nat) : (madeCells (Value.cells (.agg #[.int .i64 0, .string ⟨#[]⟩])) (n * 2)).toList = wzeros n := by
  apply List.ext_getElem?
  intro i
  by_cases h : i < n * 2
  · have hl : i < (madeCells (Value.cells (.agg #[.int .i64 0, .string ⟨#[]⟩])) (n * 2)).toList.length := by simp [madeCells]; exact h
    rw [List.getElem?_eq_getElem hl]
    obtain ⟨q, hq⟩ : ∃ q, q = i / 2 := ⟨_, rfl⟩
    have hz := wzeros_at n q (by omega)
    rcases (show i = q * 2 ∨ i = q * 2 + 1 by omega) with rfl | rfl
    · rw [hz.1]
      simp [madeCells, Value.cells]
    · rw [hz.2]
      simp [madeCells, Value.cells]
  · rw [List.getElem?_eq_none (by simp [madeCells]; omega), List.getElem?_eq_none (by rw [wzeros_len]; omega)]
theorem set_two (a b : Value) (L R : List Value) (x y : Value) (k : Nat) (hl : L.length = k) : ((L ++ a :: b :: R).set k x).set (k + 1) y = L ++ x :: y :: R := by
  subst hl
  rw [List.set_append_right _ _ (Nat.le_refl _), Nat.sub_self, List.set_cons_zero, List.set_append_right _ _ (Nat.le_succ _), show L.length + 1 - L.length = 1 by omega]
  rfl
theorem wt_more (ws : List Wt) (k : Nat) (h : k < ws.length) : wtCells (ws.take (k + 1)) = wtCells (ws.take k) ++ ws[k].cells := by
  rw [List.take_succ_eq_append_getElem h, wtCells_app]
  simp [wtCells]
theorem own_set2 {W : World} {base g n cap k : Nat} {ws : List Wt} {R : List Value} (h : W.ownsRow base 32 2 (.slice (some ⟨g, 0, none⟩) n cap) n (wtCells (ws.take k) ++ wz ++ R)) (hk : k < ws.length) :
    ((W.setCell ⟨g, k * 2, none⟩ (.int .i64 ws[k].num)).setCell ⟨g, k * 2 + 1, none⟩ (.string ws[k].text)).ownsRow base 32 2 (.slice (some ⟨g, 0, none⟩) n cap) n (wtCells (ws.take (k + 1)) ++ R) := by
  have h6 := (((h.stored (k * 2) (.int .i64 ws[k].num)).1).stored (k * 2 + 1) (.string ws[k].text)).1
  have hl : (wtCells (ws.take k)).length = k * 2 := by rw [wtCells_len, List.length_take]; omega
  rw [show wtCells (ws.take k) ++ wz ++ R = wtCells (ws.take k) ++ (.int .i64 0) :: (.string ⟨#[]⟩) :: R by simp [wz], set_two _ _ _ R _ _ (k * 2) hl] at h6
  rw [wt_more ws k hk]
  simpa [Wt.cells] using h6
theorem own_cells2 {W : World} {base g n cap k : Nat} {ws : List Wt} {R : List Value} (h : W.ownsRow base 32 2 (.slice (some ⟨g, 0, none⟩) n cap) n (wtCells (ws.take k) ++ wz ++ R)) (hk : k < ws.length) (hn : k < n) :
    W.cell? ⟨g, k * 2, none⟩ = some (.int .i64 0) ∧ W.cell? ⟨g, k * 2 + 1, none⟩ = some (.string ⟨#[]⟩) := by
  have hl : (wtCells (ws.take k)).length = k * 2 := by rw [wtCells_len, List.length_take]; omega
  constructor
  · rw [h.cellAt (k * 2) (by omega), List.append_assoc, List.getElem?_append_right (by omega), hl, Nat.sub_self]
    rfl
  · rw [h.cellAt (k * 2 + 1) (by omega), List.append_assoc, List.getElem?_append_right (by omega), hl, show k * 2 + 1 - k * 2 = 1 by omega]
    rfl

def ToPostW (ws : List Wt) (w : World) (e : Ending) (w' : World) : Prop :=
  ∃ g, e = .returned (.slice (some ⟨g, 0, none⟩) ws.length ws.length) ∧ w'.ownsRow w.heap.size 32 2 (.slice (some ⟨g, 0, none⟩) ws.length ws.length) ws.length (wtCells ws) ∧ Below w.heap.size w w'

/-- The disk d lies behind two slice addresses. -/
def DkAt (w : World) (A B : Option Addr) (d : Dk) : Prop := Lies w A (strCells d.cells) ∧ Lies w B (wtCells d.waits)
theorem DkAt.below {w w' : World} {A B : Option Addr} {d : Dk} (h : DkAt w A B d) (hb : Below w.heap.size w w') : DkAt w' A B d := ⟨h.1.below hb, h.2.below hb⟩
/-- The disk d lies in memory of the call's own. -/
def DkOwn (w : World) (base : Nat) (v : Value) (d : Dk) : Prop :=
  ∃ (t : TypeId) (u1 u2 : Value), v = .agg #[u1, u2, .bool d.gone] ∧ (t = 9 ∨ t = 51) ∧ w.ownsRow base t 1 u1 d.cells.length (strCells d.cells) ∧ w.ownsRow base 32 2 u2 d.waits.length (wtCells d.waits)
theorem DkOwn.below {w w' : World} {base : Nat} {v : Value} {d : Dk} (h : DkOwn w base v d) (hb : Below w.heap.size w w') : DkOwn w' base v d := by
  obtain ⟨t, u1, u2, e, ht, h1, h2⟩ := h
  exact ⟨t, u1, u2, e, ht, own_bel h1 hb, own_bel h2 hb⟩
theorem own_base {w : World} {base base' : Nat} {t : TypeId} {sz n : Nat} {v : Value} {xs : List Value} (h : w.ownsRow base t sz v n xs) (hb : base' ≤ base) : w.ownsRow base' t sz v n xs := by
  refine ⟨h.1, ?_⟩
  rcases h.2 with h | ⟨g, cap, cur, rfl, hg, r⟩
  · exact .inl h
  · exact .inr ⟨g, cap, cur, rfl, Nat.le_trans hb hg, r⟩
theorem DkOwn.base {w : World} {base base' : Nat} {v : Value} {d : Dk} (h : DkOwn w base v d) (hb : base' ≤ base) : DkOwn w base' v d := by
  obtain ⟨t, u1, u2, e, ht, h1, h2⟩ := h
  exact ⟨t, u1, u2, e, ht, own_base h1 hb, own_base h2 hb⟩
theorem DkOwn.at_ {w : World} {base : Nat} {v : Value} {d : Dk} (h : DkOwn w base v d) : ∃ A c B e, v = .agg #[.slice A d.cells.length c, .slice B d.waits.length e, .bool d.gone] ∧ DkAt w A B d := by
  obtain ⟨t, u1, u2, rfl, ht, h1, h2⟩ := h
  obtain ⟨A, c, rfl, l1⟩ := own_lies h1
  obtain ⟨B, e, rfl, l2⟩ := own_lies h2
  exact ⟨A, c, B, e, rfl, l1, l2⟩

def DkPost (d : Dk) (w : World) (e : Ending) (w' : World) : Prop := ∃ v, e = .returned v ∧ DkOwn w' w.heap.size v d ∧ Below w.heap.size w w'
end Go.Proofs.Ytimpdjlgfjehcaa

namespace Go.Proofs.Ytimpdjlgfjehcaa
open Go.RowKit

theorem bcell {W w1 : World} (hb : Below W.heap.size W w1) : (∀ b o, b < W.heap.size → w1.cell? ⟨b, o, none⟩ = W.cell? ⟨b, o, none⟩) ∧ (∀ b o, b < W.heap.size → w1.frozen? ⟨b, o, none⟩ = W.frozen? ⟨b, o, none⟩) :=
  ⟨fun b o h => hb.cell (p := ⟨b, o, none⟩) h, fun b o h => hb.frozen (p := ⟨b, o, none⟩) h⟩

theorem own_set {w : World} {base : Nat} {t : TypeId} {sz n : Nat} {v : Value} {xs : List Value} (h : w.ownsRow base t sz v n xs) {p : Addr} (hp : p.block < base) (u : Value) : (w.setCell p u).ownsRow base t sz v n xs :=
  h.kept (row := some p.block) ⟨rfl, rfl, rfl, by simp [World.setCell], fun k _ hk => Below.heap_setCell _ _ _ k (fun e => hk (by rw [e]))⟩ (.inr (fun e => by have := (h.lt _ e).1; omega))
theorem size_set (w : World) (p : Addr) (u : Value) : (w.setCell p u).heap.size = w.heap.size := by simp [World.setCell]

theorem DkOwn.set {W : World} {base : Nat} {v : Value} {d : Dk} (h : DkOwn W base v d) {p : Addr} (hp : p.block < base) (u : Value) : DkOwn (W.setCell p u) base v d := by
  obtain ⟨t, u1, u2, e, ht, h1, h2⟩ := h
  exact ⟨t, u1, u2, e, ht, own_set h1 hp u, own_set h2 hp u⟩
theorem DkOwn.box {W : World} {base R : Nat} {v : Value} {d : Dk} (h : DkOwn W base v d) (hR : R < base) (a b c : Value) : DkOwn (((W.setCell ⟨R, 0, none⟩ a).setCell ⟨R, 1, none⟩ b).setCell ⟨R, 2, none⟩ c) base v d :=
  ((h.set (p := ⟨R, 0, none⟩) hR a).set (p := ⟨R, 1, none⟩) hR b).set (p := ⟨R, 2, none⟩) hR c
theorem bel_box {w W : World} {R : Nat} (h : Below w.heap.size w W) (hR : w.heap.size ≤ R) (a b c : Value) : Below w.heap.size w (((W.setCell ⟨R, 0, none⟩ a).setCell ⟨R, 1, none⟩ b).setCell ⟨R, 2, none⟩ c) :=
  ((h.setCell (p := ⟨R, 0, none⟩) hR a).setCell (p := ⟨R, 1, none⟩) hR b).setCell (p := ⟨R, 2, none⟩) hR c
end Go.Proofs.Ytimpdjlgfjehcaa

namespace Go.Proofs.Ytimpdjlgfjehcaa
open Go.RowKit

/-- The cells of two waiting writes, kept. -/
def TwoW (w : World) (g x h y : Nat) (n : Int) (t : ByteArray) (W : World) : Prop :=
  W.cell? ⟨g, x, none⟩ = some (.int .i64 n) ∧ W.cell? ⟨g, x + 1, none⟩ = some (.string t) ∧ W.cell? ⟨h, y, none⟩ = some (.int .i64 n) ∧ W.cell? ⟨h, y + 1, none⟩ = some (.string t) ∧ g < W.heap.size ∧ h < W.heap.size ∧ Below w.heap.size w W
theorem TwoW.next {w W W' : World} {g x h y : Nat} {n : Int} {t : ByteArray} (k : TwoW w g x h y n t W) (hb : Below W.heap.size W W') : TwoW w g x h y n t W' := by
  obtain ⟨a0, a1, b0, b1, hg, hh, hw⟩ := k
  exact ⟨(hb.cell hg).trans a0, (hb.cell hg).trans a1, (hb.cell hh).trans b0, (hb.cell hh).trans b1, Nat.lt_of_lt_of_le hg hb.size, Nat.lt_of_lt_of_le hh hb.size, bel_then hw hb⟩
theorem TwoW.drew {w W : World} {g x h y : Nat} {n : Int} {t : ByteArray} (k : TwoW w g x h y n t W) : TwoW w g x h y n t W.drew := by
  obtain ⟨a0, a1, b0, b1, hg, hh, hw⟩ := k
  exact ⟨a0, a1, b0, b1, hg, hh, hw.drew⟩

end Go.Proofs.Ytimpdjlgfjehcaa

namespace Go.Proofs.Ytimpdjlgfjehcaa
open Go.RowKit

theorem grown_trans {a b c : World} {r : Option Nat} (h : a.grownBy b r) (k : b.grownBy c r) : a.grownBy c r :=
  ⟨k.os.trans h.os, k.tape.trans h.tape, k.output.trans h.output, Nat.le_trans h.size k.size, fun i hi hne => (k.block i (Nat.lt_of_lt_of_le hi h.size) hne).trans (h.block i hi hne)⟩
theorem below_grown {a b : World} (h : Below a.heap.size a b) (r : Option Nat) : a.grownBy b r := ⟨h.os, h.tape, h.output, h.size, fun k hk _ => h.block k hk⟩
theorem own_addr {w : World} {base : Nat} {t : TypeId} {sz n m c : Nat} {A : Option Addr} {xs : List Value} (h : w.ownsRow base t sz (.slice A m c) n xs) (hn : 0 < n) : ∃ g, A = some ⟨g, 0, none⟩ := by
  rcases h.2 with ⟨_, h0⟩ | ⟨g, cap, _, e, _⟩
  · omega
  · cases e
    exact ⟨g, rfl⟩

def marks (a n : Nat) : List ByteArray := (List.range n).map fun i => strOf (markL (a + i))
theorem marks_len (a n : Nat) : (marks a n).length = n := by simp [marks]
theorem marks_next (a n : Nat) : marks a (n + 1) = marks a n ++ [strOf (markL (a + n))] := by simp [marks, List.range_succ]
theorem marks_at (a n k : Nat) (h : k < n) : (strCells (marks a n))[k]? = some (.string (strOf (markL (a + k)))) := by
  simp [strCells, marks, h]
theorem set_mark (a : Nat) (ss : List ByteArray) (k : Nat) (h : k < ss.length) :
    (strCells (marks a k ++ ss.drop k)).set k (.string (strOf (markL (a + k)))) = strCells (marks a (k + 1) ++ ss.drop (k + 1)) := by
  have hl : (strCells (marks a k)).length = k := by simp [strCells, marks]
  rw [marks_next, List.drop_eq_getElem_cons h]
  simp only [strCells, List.map_append, List.map_cons, List.append_assoc] at hl ⊢
  rw [List.set_append_right _ _ (by omega), hl, Nat.sub_self, List.set_cons_zero]
  rfl

def MarkPost (base : Nat) (t : TypeId) (v : Value) (a n : Nat) (w : World) (e : Ending) (w' : World) : Prop :=
  e = .returned (.int .i64 ((a : Int) + (n : Int))) ∧ w'.ownsRow base t 1 v n (strCells (marks a n)) ∧ w.grownBy w' v.ownBlock

end Go.Proofs.Ytimpdjlgfjehcaa

namespace Go.Proofs.Ytimpdjlgfjehcaa
open Go.RowKit

def markW (a i : Nat) : Wt := ⟨((a + 2 * i : Nat) : Int), strOf (markL (a + 2 * i + 1))⟩
def marksW (a n : Nat) : List Wt := (List.range n).map (markW a)
theorem marksW_len (a n : Nat) : (marksW a n).length = n := by simp [marksW]
theorem marksW_next (a n : Nat) : marksW a (n + 1) = marksW a n ++ [markW a n] := by simp [marksW, List.range_succ]
theorem marksW_at (a n k : Nat) (h : k < n) : (wtCells (marksW a n))[k * 2]? = some (.int .i64 ((a + 2 * k : Nat) : Int)) ∧ (wtCells (marksW a n))[k * 2 + 1]? = some (.string (strOf (markL (a + 2 * k + 1)))) := by
  have h2 := wtCells_at (marksW a n) k (by rw [marksW_len]; exact h)
  have h3 : (marksW a n)[k]'(by rw [marksW_len]; exact h) = markW a k := by simp [marksW]
  rw [h3] at h2
  exact h2
theorem wt_split (a : Nat) (ws : List Wt) (k : Nat) (h : k < ws.length) : wtCells (marksW a k ++ ws.drop k) = wtCells (marksW a k) ++ (.int .i64 ws[k].num) :: (.string ws[k].text) :: wtCells (ws.drop (k + 1)) := by
  rw [List.drop_eq_getElem_cons h, wtCells_app]
  rfl
theorem set_markW (a : Nat) (ws : List Wt) (k : Nat) (h : k < ws.length) :
    ((wtCells (marksW a k ++ ws.drop k)).set (k * 2) (.int .i64 ((a + 2 * k : Nat) : Int))).set (k * 2 + 1) (.string (strOf (markL (a + 2 * k + 1)))) = wtCells (marksW a (k + 1) ++ ws.drop (k + 1)) := by
  rw [wt_split a ws k h, set_two _ _ _ _ _ _ (k * 2) (by rw [wtCells_len, marksW_len]), marksW_next, List.append_assoc, wtCells_app]
  rfl

def MarkPostW (base : Nat) (v : Value) (a n : Nat) (w : World) (e : Ending) (w' : World) : Prop :=
  e = .returned (.int .i64 ((a : Int) + 2 * (n : Int))) ∧ w'.ownsRow base 32 2 v n (wtCells (marksW a n)) ∧ w.grownBy w' v.ownBlock

end Go.Proofs.Ytimpdjlgfjehcaa

namespace Go.Proofs.Ytimpdjlgfjehcaa
open Go.RowKit

/-- Of what was there, nothing has turned but blocks from lo on, below hi. -/
structure Only (lo hi : Nat) (a w : World) : Prop where
  os : w.os = a.os
  tape : w.tape = a.tape
  output : w.output = a.output
  size : a.heap.size ≤ w.heap.size
  block : ∀ k, k < a.heap.size → ¬ (lo ≤ k ∧ k < hi) → w.heap[k]? = a.heap[k]?
theorem Only.of_below {lo hi : Nat} {a w : World} (h : Below a.heap.size a w) : Only lo hi a w := ⟨h.os, h.tape, h.output, h.size, fun k hk _ => h.block k hk⟩
theorem Only.of_grown {lo hi : Nat} {a w : World} {r : Option Nat} (h : a.grownBy w r) (hr : ∀ k, r = some k → lo ≤ k ∧ k < hi) : Only lo hi a w :=
  ⟨h.os, h.tape, h.output, h.size, fun k hk hn => h.block k hk (fun e => hn (hr k e.symm))⟩
theorem Only.trans {lo hi : Nat} {a b c : World} (h : Only lo hi a b) (k : Only lo hi b c) : Only lo hi a c :=
  ⟨k.os.trans h.os, k.tape.trans h.tape, k.output.trans h.output, Nat.le_trans h.size k.size, fun i hi hn => (k.block i (Nat.lt_of_lt_of_le hi h.size) hn).trans (h.block i hi hn)⟩
theorem Only.below {lo hi B : Nat} {a w : World} (h : Only lo hi a w) (hB : B ≤ lo) (hs : B ≤ a.heap.size) : Below B a w :=
  ⟨h.os, h.tape, h.output, h.size, fun k hk => h.block k (Nat.lt_of_lt_of_le hk hs) (fun e => by omega)⟩

def DkIn (w : World) (base top : Nat) (v : Value) (d : Dk) : Prop :=
  ∃ (t : TypeId) (u1 u2 : Value), v = .agg #[u1, u2, .bool d.gone] ∧ (t = 9 ∨ t = 51) ∧ (w.ownsRow base t 1 u1 d.cells.length (strCells d.cells) ∧ ∀ k, u1.ownBlock = some k → k < top) ∧ (w.ownsRow base 32 2 u2 d.waits.length (wtCells d.waits) ∧ ∀ k, u2.ownBlock = some k → k < top)
theorem DkOwn.in_ {w : World} {base : Nat} {v : Value} {d : Dk} (h : DkOwn w base v d) : DkIn w base w.heap.size v d := by
  obtain ⟨t, u1, u2, e, ht, h1, h2⟩ := h
  exact ⟨t, u1, u2, e, ht, ⟨h1, fun k hk => (h1.lt k hk).2⟩, ⟨h2, fun k hk => (h2.lt k hk).2⟩⟩
theorem DkIn.own {w : World} {base top : Nat} {v : Value} {d : Dk} (h : DkIn w base top v d) : DkOwn w base v d := by
  obtain ⟨t, u1, u2, e, ht, h1, h2⟩ := h
  exact ⟨t, u1, u2, e, ht, h1.1, h2.1⟩
theorem DkIn.below {w w' : World} {base top : Nat} {v : Value} {d : Dk} (h : DkIn w base top v d) (hb : Below w.heap.size w w') : DkIn w' base top v d := by
  obtain ⟨t, u1, u2, e, ht, h1, h2⟩ := h
  exact ⟨t, u1, u2, e, ht, ⟨own_bel h1.1 hb, h1.2⟩, ⟨own_bel h2.1 hb, h2.2⟩⟩
theorem own_only {w w' : World} {lo hi base : Nat} {t : TypeId} {sz n : Nat} {v : Value} {xs : List Value} (h : w.ownsRow base t sz v n xs) (hg : Only lo hi w w') (hne : ∀ k, v.ownBlock = some k → ¬ (lo ≤ k ∧ k < hi)) : w'.ownsRow base t sz v n xs := by
  refine ⟨h.1, ?_⟩
  rcases h.2 with hn | ⟨g, cap, cur, rfl, hb, hgg, rest⟩
  · exact .inl hn
  · refine .inr ⟨g, cap, cur, rfl, hb, ?_, rest⟩
    rw [hg.block g (Array.getElem?_eq_some_iff.1 hgg).1 (hne g rfl)]
    exact hgg
theorem DkOwn.only {w w' : World} {lo hi base : Nat} {v : Value} {d : Dk} (h : DkOwn w base v d) (hg : Only lo hi w w') (hb : hi ≤ base) : DkOwn w' base v d := by
  obtain ⟨t, u1, u2, e, ht, h1, h2⟩ := h
  exact ⟨t, u1, u2, e, ht, own_only h1 hg (fun k hk => by have := (h1.lt k hk).1; omega), own_only h2 hg (fun k hk => by have := (h2.lt k hk).1; omega)⟩
theorem DkIn.only {w w' : World} {lo hi base top : Nat} {v : Value} {d : Dk} (h : DkIn w base top v d) (hg : Only lo hi w w') (hb : hi ≤ base ∨ top ≤ lo) : DkIn w' base top v d := by
  obtain ⟨t, u1, u2, e, ht, h1, h2⟩ := h
  exact ⟨t, u1, u2, e, ht, ⟨own_only h1.1 hg (fun k hk => by have := (h1.1.lt k hk).1; have := h1.2 k hk; omega), h1.2⟩, ⟨own_only h2.1 hg (fun k hk => by have := (h2.1.lt k hk).1; have := h2.2 k hk; omega), h2.2⟩⟩
theorem own_ne {w : World} {b1 b2 : Nat} {t1 t2 : TypeId} {s1 s2 n1 n2 : Nat} {v1 v2 : Value} {x1 x2 : List Value} (h1 : w.ownsRow b1 t1 s1 v1 n1 x1) (h2 : w.ownsRow b2 t2 s2 v2 n2 x2) (hne : t1 ≠ t2) : v2.ownBlock = none ∨ v2.ownBlock ≠ v1.ownBlock := by
  rcases h2.2 with ⟨rfl, _⟩ | ⟨g, cap, cur, rfl, hb, hgg, rest⟩
  · exact .inl rfl
  · refine .inr ?_
    rcases h1.2 with ⟨rfl, _⟩ | ⟨g', cap', cur', rfl, hb', hgg', rest'⟩
    · simp [Value.ownBlock]
    · intro e
      simp only [Value.ownBlock, Option.some.injEq] at e
      subst e
      rw [hgg] at hgg'
      injection hgg' with hgg'
      injection hgg' with _ ht
      exact hne ht.symm
def markD (d : Dk) : Dk := ⟨marks 1 d.cells.length, marksW (1 + d.cells.length) d.waits.length, d.gone⟩

def MarkPostD (base top : Nat) (v : Value) (d : Dk) (w : World) (e : Ending) (w' : World) : Prop :=
  e = .returned (.int .i64 (1 + (d.cells.length : Int) + 2 * (d.waits.length : Int))) ∧ DkIn w' base top v (markD d) ∧ Only base top w w'

end Go.Proofs.Ytimpdjlgfjehcaa
