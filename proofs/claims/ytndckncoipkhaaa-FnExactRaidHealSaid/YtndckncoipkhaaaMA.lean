/-
  Disks as lists and in memory: their weight, a copy, whether two are equal, the marks of a law.
-/
import Derived.Laws.Rows
import Derived.Lib.Hide
import Derived.Test.YtndckncoipkhaaaProg
import Derived.BigQuiet
import Derived.Deep.QuietTactic
import Derived.Laws.OwnMore
import Derived.OwnWalk
import Derived.Below
import Derived.Deep.AppendLies
import Derived.Deep.Draws
import Derived.Deep.MidRow
import Derived.Deep.LoopGhost
import Derived.Deep.DeepCutAuto
import Derived.Deep.CutBlock
import Derived.Maps.AppendAt
import Derived.RegionTactic
import Derived.IntWalk
import Derived.WalkKit
import Derived.WalkSpells
import Derived.Lib.ItoaNum
import Derived.Laws.BytesArg
import Derived.Deep.RegionWith
import Derived.Deep.RegionHeld3
import Derived.WalkSmall

namespace Go.Proofs.Ytndckncoipkhaaa

structure Wt where
  num : Int
  text : ByteArray
structure Dk where
  cells : List ByteArray
  waits : List Wt
  gone : Bool

def strOf (l : List UInt8) : ByteArray := ⟨l.toArray⟩
def none8 : ByteArray := ⟨#[]⟩
theorem none8_size : none8.size = 0 := rfl

def WtOk (x : Wt) : Prop := 0 ≤ x.num ∧ x.num ≤ 63 ∧ x.text.size ≤ 200
instance (x : Wt) : Decidable (WtOk x) := by unfold WtOk; infer_instance
def DkOk (d : Dk) : Prop := d.cells.length = 64 ∧ d.waits.length ≤ 120 ∧ (d.gone = true → d.waits.length = 0 ∧ ∀ s ∈ d.cells, s.size = 0) ∧ (∀ s ∈ d.cells, s.size ≤ 200) ∧ ∀ x ∈ d.waits, WtOk x
instance (d : Dk) : Decidable (DkOk d) := by unfold DkOk; infer_instance
/-- Whether a disk is valid. -/
def okD (d : Dk) : Bool := decide (DkOk d)
theorem okD_iff (d : Dk) : okD d = true ↔ DkOk d := by simp [okD]
theorem okD_no {d : Dk} (h : ¬ DkOk d) : okD d = false := by simp [okD, h]

/-- What the first k waiting writes, from the last on, say of a cell. -/
def rd (ws : List Wt) (n : Int) (z : ByteArray) : Nat → ByteArray
  | 0 => z
  | k + 1 => match ws[k]? with
    | some x => if x.num = n then x.text else rd ws n z k
    | none => rd ws n z k
theorem rd_next (ws : List Wt) (n : Int) (z : ByteArray) (k : Nat) (h : k < ws.length) : rd ws n z (k + 1) = if ws[k].num = n then ws[k].text else rd ws n z k := by
  simp [rd, List.getElem?_eq_getElem h]
/-- The text of a cell, if all is written. -/
def latest (d : Dk) (n : Int) : ByteArray := rd d.waits n (d.cells.getD n.toNat none8) d.waits.length
def readD (d : Dk) (n : Int) : ByteArray × Bool := if DkOk d ∧ d.gone = false ∧ 0 ≤ n ∧ n ≤ 63 then (latest d n, true) else (none8, false)

/-- Bit i mod 60. -/
def bitM (mask : Int) (i : Nat) : Bool := decide (mask / 2 ^ (i % 60) % 2 = 1)
def torn (old text : ByteArray) : ByteArray := strOf (text.data.toList.take (text.size / 2) ++ old.data.toList.drop (text.size / 2))
def stp (mask tear : Int) (i : Nat) (x : Wt) (cs : List ByteArray) : List ByteArray :=
  if bitM mask i = true then cs.set x.num.toNat x.text else if (i : Int) = tear then cs.set x.num.toNat (torn (cs.getD x.num.toNat none8) x.text) else cs
/-- The cells behind the first k waiting writes. -/
def st (ws : List Wt) (mask tear : Int) (cs : List ByteArray) : Nat → List ByteArray
  | 0 => cs
  | k + 1 => match ws[k]? with
    | some x => stp mask tear k x (st ws mask tear cs k)
    | none => st ws mask tear cs k
theorem st_next (ws : List Wt) (mask tear : Int) (cs : List ByteArray) (k : Nat) (h : k < ws.length) : st ws mask tear cs (k + 1) = stp mask tear k ws[k] (st ws mask tear cs k) := by
  simp [st, List.getElem?_eq_getElem h]
theorem stp_len (mask tear : Int) (i : Nat) (x : Wt) (cs : List ByteArray) : (stp mask tear i x cs).length = cs.length := by
  unfold stp
  split
  · simp
  · split <;> simp
theorem st_len (ws : List Wt) (mask tear : Int) (cs : List ByteArray) (k : Nat) : (st ws mask tear cs k).length = cs.length := by
  induction k with
  | zero => rfl
  | succ k ih =>
    unfold st
    split
    · rw [stp_len, ih]
    · exact ih
theorem torn_size (old text : ByteArray) : (torn old text).size ≤ max old.size text.size := by
  unfold torn strOf
  simp only [ByteArray.size, List.size_toArray, List.length_append, List.length_take, List.length_drop, Array.length_toList]
  omega
def SmallC (cs : List ByteArray) : Prop := ∀ s ∈ cs, s.size ≤ 200
theorem small_set {cs : List ByteArray} (h : SmallC cs) (i : Nat) {s : ByteArray} (hs : s.size ≤ 200) : SmallC (cs.set i s) := fun t ht => by
  rcases List.mem_or_eq_of_mem_set ht with h1 | h1
  · exact h t h1
  · rw [h1]; exact hs
theorem small_getD {cs : List ByteArray} (h : SmallC cs) (i : Nat) : (cs.getD i none8).size ≤ 200 := by
  rw [List.getD_eq_getElem?_getD]
  cases e : cs[i]? with
  | none => exact Nat.zero_le _
  | some s => exact h s (List.mem_of_getElem? e)
theorem stp_small {mask tear : Int} {i : Nat} {x : Wt} {cs : List ByteArray} (h : SmallC cs) (hx : WtOk x) : SmallC (stp mask tear i x cs) := by
  unfold stp
  split
  · exact small_set h _ hx.2.2
  · split
    · refine small_set h _ ?_
      have a := torn_size (cs.getD x.num.toNat none8) x.text
      have b := small_getD h x.num.toNat
      have c := hx.2.2
      omega
    · exact h
theorem st_small {ws : List Wt} {mask tear : Int} {cs : List ByteArray} (h : SmallC cs) (hw : ∀ x ∈ ws, WtOk x) (k : Nat) : SmallC (st ws mask tear cs k) := by
  induction k with
  | zero => exact h
  | succ k ih =>
    unfold st
    split
    · rename_i x hx
      exact stp_small ih (hw x (List.mem_of_getElem? hx))
    · exact ih
def blank : List ByteArray := List.replicate 64 none8
def dk0 : Dk := ⟨[], [], false⟩
def newD : Dk := ⟨blank, [], false⟩
def loseD : Dk := ⟨blank, [], true⟩
def crashD (d : Dk) (mask tear : Int) : Dk := if DkOk d ∧ 0 ≤ mask then ⟨st d.waits mask tear d.cells d.waits.length, [], d.gone⟩ else dk0
def flushD (d : Dk) : Dk := crashD d 1152921504606846975 (-1)
def writeD (d : Dk) (n : Int) (t : ByteArray) : Dk × Bool :=
  if DkOk d then (if d.gone = false ∧ 0 ≤ n ∧ n ≤ 63 ∧ t.size ≤ 200 ∧ d.waits.length < 120 then (⟨d.cells, d.waits ++ [⟨n, t⟩], d.gone⟩, true) else (d, false)) else (dk0, false)
def spoilD (d : Dk) (n : Int) (t : ByteArray) : Dk × Bool :=
  if DkOk d ∧ d.gone = false ∧ 0 ≤ n ∧ n ≤ 63 ∧ t.size ≤ 200 then (⟨d.cells.set n.toNat t, d.waits, d.gone⟩, true) else (dk0, false)
theorem bit_all (i : Nat) : bitM 1152921504606846975 i = true := by
  have h : ∀ j, j < 60 → (1152921504606846975 : Int) / 2 ^ j % 2 = 1 := by decide
  simp [bitM, h (i % 60) (Nat.mod_lt _ (by decide))]
end Go.Proofs.Ytndckncoipkhaaa

namespace Go.Proofs.Ytndckncoipkhaaa
open Go.RowKit

def strCells (ss : List ByteArray) : List Value := ss.map Value.string
theorem strCells_len (ss : List ByteArray) : (strCells ss).length = ss.length := by simp [strCells]
theorem strCells_app (a b : List ByteArray) : strCells (a ++ b) = strCells a ++ strCells b := by simp [strCells]
theorem strCells_at (ss : List ByteArray) (k : Nat) (h : k < ss.length) : (strCells ss)[k]? = some (.string ss[k]) := by simp [strCells, h]
theorem strCells_one (ss : List ByteArray) : ∀ u ∈ strCells ss, u.oneCell' = true := fun u hu => by
  obtain ⟨x, _, rfl⟩ := List.mem_map.1 hu
  rfl
def Wt.cells (x : Wt) : List Value := [.int .i64 x.num, .string x.text]
def wtCells (ws : List Wt) : List Value := ws.flatMap Wt.cells
theorem wtCells_len (ws : List Wt) : (wtCells ws).length = ws.length * 2 := by
  induction ws with
  | nil => rfl
  | cons x ws ih =>
    show (Wt.cells x ++ wtCells ws).length = _
    rw [List.length_append, ih, List.length_cons]
    show 2 + _ = _
    omega
theorem wtCells_app (a b : List Wt) : wtCells (a ++ b) = wtCells a ++ wtCells b := by simp [wtCells]
theorem wtCells_at : ∀ (ws : List Wt) (k : Nat) (h : k < ws.length), (wtCells ws)[k * 2]? = some (.int .i64 ws[k].num) ∧ (wtCells ws)[k * 2 + 1]? = some (.string ws[k].text)
  | x :: ws, 0, _ => ⟨rfl, rfl⟩
  | x :: ws, k + 1, h => by
    have ih := wtCells_at ws k (by simpa using h)
    constructor
    · show (Wt.cells x ++ wtCells ws)[(k + 1) * 2]? = _
      rw [List.getElem?_append_right (by show 2 ≤ _; omega)]
      show (wtCells ws)[(k + 1) * 2 - 2]? = _
      rw [show (k + 1) * 2 - 2 = k * 2 by omega]
      exact ih.1
    · show (Wt.cells x ++ wtCells ws)[(k + 1) * 2 + 1]? = _
      rw [List.getElem?_append_right (by show 2 ≤ _; omega)]
      show (wtCells ws)[(k + 1) * 2 + 1 - 2]? = _
      rw [show (k + 1) * 2 + 1 - 2 = k * 2 + 1 by omega]
      exact ih.2
theorem wtCells_one (ws : List Wt) : ∀ u ∈ wtCells ws, u.oneCell' = true := fun u hu => by
  obtain ⟨x, _, hx⟩ := List.mem_flatMap.1 hu
  simp only [Wt.cells, List.mem_cons, List.not_mem_nil, or_false] at hx
  rcases hx with rfl | rfl <;> rfl

/-- The cells xs lie behind the slice address A. -/
def Lies (w : World) (A : Option Addr) (xs : List Value) : Prop :=
  0 < xs.length → ∃ b off, A = some ⟨b, off, none⟩ ∧ b < w.heap.size ∧ ∀ j v, xs[j]? = some v → w.cell? ⟨b, off + j, none⟩ = some v
theorem Lies.nil (w : World) (A : Option Addr) : Lies w A [] := fun h => absurd h (by simp)
theorem Lies.below {w w' : World} {A : Option Addr} {xs : List Value} (h : Lies w A xs) (hb : Below w.heap.size w w') : Lies w' A xs := by
  intro h0
  obtain ⟨b, off, rfl, hlt, hc⟩ := h h0
  exact ⟨b, off, rfl, Nat.lt_of_lt_of_le hlt hb.size, fun j v hj => (hb.cell (p := ⟨b, off + j, none⟩) hlt).trans (hc j v hj)⟩
theorem Lies.alloc {w : World} {A : Option Addr} {xs : List Value} (h : Lies w A xs) (o : Obj) : Lies (w.alloc o) A xs := h.below ((Below.refl _ _).alloc (Nat.le_refl _) o)
theorem Lies.str {w : World} {A : Option Addr} {ss : List ByteArray} (h : Lies w A (strCells ss)) (k : Nat) (hk : k < ss.length) : ∃ b off, A = some ⟨b, off, none⟩ ∧ b < w.heap.size ∧ w.cell? ⟨b, off + k, none⟩ = some (.string ss[k]) := by
  obtain ⟨b, off, e, hlt, hc⟩ := h (by rw [strCells_len]; omega)
  exact ⟨b, off, e, hlt, hc k _ (strCells_at ss k hk)⟩
theorem Lies.wt {w : World} {A : Option Addr} {ws : List Wt} (h : Lies w A (wtCells ws)) (k : Nat) (hk : k < ws.length) : ∃ b off, A = some ⟨b, off, none⟩ ∧ b < w.heap.size ∧ w.cell? ⟨b, off + k * 2, none⟩ = some (.int .i64 ws[k].num) ∧ w.cell? ⟨b, off + k * 2 + 1, none⟩ = some (.string ws[k].text) := by
  obtain ⟨b, off, e, hlt, hc⟩ := h (by rw [wtCells_len]; omega)
  have a := wtCells_at ws k hk
  refine ⟨b, off, e, hlt, hc _ _ a.1, ?_⟩
  rw [show off + k * 2 + 1 = off + (k * 2 + 1) by omega]
  exact hc _ _ a.2
/-- A row of the call's own leads to its cells. -/
theorem own_lies {w : World} {base : Nat} {t : TypeId} {sz n : Nat} {v : Value} {xs : List Value} (h : w.ownsRow base t sz v n xs) : ∃ A c, v = .slice A n c ∧ Lies w A xs := by
  have hl := h.1
  have hc := fun g hg => h.cells (g := g) hg
  have hlt := fun g hg => h.lt g hg
  rcases h.2 with ⟨rfl, rfl⟩ | ⟨g, cap, cur, rfl, _⟩
  · refine ⟨none, 0, rfl, fun h0 => ?_⟩
    rw [hl] at h0
    omega
  · refine ⟨some ⟨g, 0, none⟩, cap, rfl, fun _ => ⟨g, 0, rfl, (hlt g rfl).2, fun j v hj => ?_⟩⟩
    have := hc g rfl j v hj
    rwa [Addr.add_mid] at this
theorem own_bel {w w' : World} {base : Nat} {t : TypeId} {sz n : Nat} {v : Value} {xs : List Value} (h : w.ownsRow base t sz v n xs) (hb : Below w.heap.size w w') : w'.ownsRow base t sz v n xs := by
  refine h.kept (row := none) ⟨hb.os, hb.tape, hb.output, hb.size, fun k hk _ => hb.block k hk⟩ ?_
  cases v.ownBlock with
  | none => exact .inl rfl
  | some k => exact .inr (by simp)
theorem bel_then {a b c : World} (h : Below a.heap.size a b) (k : Below b.heap.size b c) : Below a.heap.size a c := h.trans (k.mono h.size)
theorem bel_new {a b : World} (h : Below a.heap.size a b) (o : Obj) : Below a.heap.size a (b.alloc o) := h.alloc h.size o
end Go.Proofs.Ytndckncoipkhaaa

namespace Go.Proofs.Ytndckncoipkhaaa
open Go.RowKit

theorem strOf_toList (l : List UInt8) : (strOf l).data.toList = l := by simp [strOf]
theorem strOf_size (l : List UInt8) : (strOf l).size = l.length := by simp [strOf, ByteArray.size]
theorem bytes_inj {a b : ByteArray} (h : a.data.toList = b.data.toList) : a = b := by
  cases a; cases b
  simp at h
  rw [h]
theorem strOf_app (l m : List UInt8) : strOf l ++ strOf m = strOf (l ++ m) := by
  apply bytes_inj
  rw [strOf_toList]
  simp [strOf]
theorem add_strs (P : Program) (l m : List UInt8) (h : l.length + m.length ≤ 9223372036854775807) (w : World) : (Op.stringOp .add (strOf l) (strOf m)).run P w = .ok (.string (strOf (l ++ m))) w := by
  rw [run_string_add_sum w _ _ (by rw [strOf_size, strOf_size]; exact h), strOf_app]
set_option maxRecDepth 100000 in
theorem conv_one (w : World) (B : Nat) (x : UInt8) (h : w.cell? ⟨B, 0, none⟩ = some (.int .u8 (x.toNat : Int))) :
    (convert 100 9 (.slice (some ⟨B, 0, none⟩) 1 1)).run Try.prog w = .ok (.string (strOf [x])) w := by
  have hr := run_convert_bytes_arg (P := Try.prog) w 100 5 Try.underlying100 Try.underlying5 B 0 1 1 [(x.toNat : Int)] rfl (fun i hi => by
    obtain rfl : i = 0 := by omega
    rw [h]; rfl) 9 Try.underlying9
  rw [hr]
  congr 2
  simp [strOfNums, strOf]
theorem dec_small (u : Nat) (h : u < 10) : Lib.decDigits u = [UInt8.ofNat (48 + u)] := by rw [Lib.decDigits, dif_pos h]
theorem dec_more (u : Nat) (h : ¬ u < 10) : Lib.decDigits u = Lib.decDigits (u / 10) ++ [UInt8.ofNat (48 + u % 10)] := by rw [Lib.decDigits, dif_neg h]
theorem dig_nums (a : Int) (h0 : 0 ≤ a) (h9 : a < 10) : (48 + a : Int) = ((UInt8.ofNat (48 + a.toNat)).toNat : Int) := by
  have h : (UInt8.ofNat (48 + a.toNat)).toNat = 48 + a.toNat := by simp; omega
  rw [h]
  omega
theorem dec_length (k : Nat) : ∀ v : Nat, v < 10 ^ (k + 1) → (Lib.decDigits v).length ≤ k + 1 := by
  induction k with
  | zero =>
    intro v h
    rw [dec_small v (by simpa using h)]
    simp
  | succ k ih =>
    intro v h
    by_cases h10 : v < 10
    · rw [dec_small v h10]; simp
    · rw [dec_more v h10]
      have := ih (v / 10) (by rw [Nat.pow_succ] at h; omega)
      simp
      omega
def markL (k : Nat) : List UInt8 := 109 :: Lib.decDigits k
theorem dec_len7 (k : Nat) (h : k ≤ 9999999) : (Lib.decDigits k).length ≤ 7 := dec_length 6 k (by omega)

set_option maxRecDepth 100000 in
set_option maxHeartbeats 1000000 in
theorem mark_text (a : Int) (w : World) (h1 : 1 ≤ a) (h2 : a ≤ 9999999) :
    Calls Try.prog 108 #[.int .i64 a] w fun e w' => e = .returned (.string (strOf (markL a.toNat))) ∧ Below w.heap.size w w' := by
  obtain ⟨k, rfl⟩ : ∃ k : Nat, a = (k : Int) := ⟨a.toNat, by omega⟩
  rw [Int.toNat_natCast]
  have hk7 := dec_len7 k (by omega)
  have h1' : ¬ (k : Int) ≤ 0 := by omega
  go_enter Try.func108, Try.ntmps108
  go_wp2
  go_loopg [0, 3] k (fun g i o wr => ∃ (j : Nat) (l : List UInt8), g = j ∧ i = .int .i64 j ∧ o = .string (strOf l) ∧ l.length ≤ 7 ∧ j ≤ 9999999 ∧ (0 < j → Lib.decDigits k = Lib.decDigits j ++ l) ∧ (j = 0 → l = Lib.decDigits k) ∧ Below w.heap.size w wr)
  case atStart => exact ⟨k, [], rfl, rfl, rfl, by simp, by omega, fun _ => by simp, fun h => by omega, Below.refl _ _⟩
  case round =>
    obtain ⟨j, l, hg, rfl, rfl, hl, hj, hp, hz, hb⟩ := hrel
    have HG := Lib.hid hg
    clear hg
    by_cases hj0 : 0 < j
    · have hjj : (0 : Int) < (j : Int) := by omega
      obtain ⟨q, hq⟩ : ∃ q, q = j / 10 := ⟨_, rfl⟩
      obtain ⟨m, hm⟩ : ∃ m, m = j % 10 := ⟨_, rfl⟩
      have hm9 : m < 10 := by omega
      have hn := dig_nums (m : Int) (by omega) (by omega)
      rw [Int.toNat_natCast] at hn
      have hnew : (0 < q → Lib.decDigits k = Lib.decDigits q ++ (UInt8.ofNat (48 + m) :: l)) ∧ (q = 0 → UInt8.ofNat (48 + m) :: l = Lib.decDigits k) := by
        have hp' := hp hj0
        by_cases h10 : j < 10
        · rw [dec_small j h10] at hp'
          have : m = j := by omega
          subst this
          exact ⟨fun h => by omega, fun _ => by rw [hp']; rfl⟩
        · rw [dec_more j h10, ← hq, ← hm] at hp'
          exact ⟨fun _ => by rw [hp']; simp, fun h => by omega⟩
      obtain ⟨x, hx⟩ : ∃ x, x = UInt8.ofNat (48 + m) := ⟨_, rfl⟩
      rw [← hx] at hn hnew
      have hl2 : (x :: l).length ≤ 7 := by
        rcases Nat.eq_zero_or_pos q with h | h
        · rw [hnew.2 h]; exact hk7
        · have := congrArg List.length (hnew.1 h)
          rw [List.length_append] at this
          omega
      have hadd := add_strs Try.prog [x] l (by simp; omega)
      have hcv : ∀ (W : World) (B : Nat), W.cell? ⟨B, 0, none⟩ = some (.int .u8 (48 + (m : Int))) → (convert 100 9 (.slice (some ⟨B, 0, none⟩) 1 1)).run Try.prog W = .ok (.string (strOf [x])) W := fun W B h => conv_one W B x (by rw [h, hn])
      have hd : ((j : Int)).tdiv 10 = (q : Int) := by rw [Int.tdiv_eq_ediv_of_nonneg (by omega)]; omega
      have hmm : ((j : Int)).tmod 10 = (m : Int) := by rw [Int.tmod_eq_emod_of_nonneg (by omega)]; omega
      have hwq : IntKind.i64.wrap (q : Int) = q := IntWalk.i64_in _ (by omega)
      have hwm : IntKind.i64.wrap (48 + (m : Int)) = 48 + m := IntWalk.i64_in _ (by omega)
      have hwu : IntKind.u8.wrap (48 + (m : Int)) = 48 + m := IntWalk.u8_in _ (by omega)
      have HN := Lib.hid hnew
      have HQ := Lib.hid hq
      clear hnew hx hn hp hz hq hm
      go_wp2_with fail
      go_roundg q
      case measure => have := HG.out; have := HQ.out; omega
      case rel => exact ⟨q, x :: l, rfl, by first | rfl | (rw [hd, hwq]) | (go_num), rfl, hl2, by have := HQ.out; omega, HN.out.1, HN.out.2, hb.alloc hb.size _⟩
    · have hjz : j = 0 := by omega
      subst hjz
      have hle := hz rfl
      subst hle
      clear hp hz
      have hadd : ∀ w, (Op.stringOp .add ⟨#[109]⟩ (strOf (Lib.decDigits k))).run Try.prog w = .ok (.string (strOf (markL k))) w := fun w => add_strs Try.prog [109] (Lib.decDigits k) (by simp; omega) w
      go_wp2_with fail
      go_ret
      exact ⟨rfl, hb⟩
end Go.Proofs.Ytndckncoipkhaaa

namespace Go.Proofs.Ytndckncoipkhaaa
open Go.RowKit

def SzPost (n : Nat) (L : Int) (w : World) (e : Ending) (w' : World) : Prop := ∃ z : Int, e = .returned (.int .i64 z) ∧ Below w.heap.size w w' ∧ (0 ≤ z → (n : Int) ≤ L - z)

set_option maxHeartbeats 1000000 in
theorem sz_strs (A : Option Addr) (cap : Nat) (ss : List ByteArray) (L : Int) (w : World) (hL0 : 0 ≤ L) (hL : L ≤ 1048576) (hn : ss.length ≤ maxLen) (hs : ∀ s ∈ ss, s.size ≤ maxLen) (hA : Lies w A (strCells ss)) :
    Calls Try.prog 109 #[.slice A ss.length cap, .int .i64 L] w (SzPost ss.length L w) := by
  unfold maxLen at hn
  by_cases h0 : L < (ss.length : Int)
  · have h0' : L - (ss.length : Int) < 0 := by omega
    go_enter Try.func109, Try.ntmps109
    go_wp2
    go_ret
    exact ⟨_, rfl, Below.refl _ _, by intro h; omega⟩
  · have h0' : ¬ L - (ss.length : Int) < 0 := by omega
    go_enter Try.func109, Try.ntmps109
    go_wp2
    go_loop [1, 5] (fun z i => ∃ (k : Nat) (u : Int), k ≤ ss.length ∧ i = .int .i64 k ∧ z = .int .i64 u ∧ 0 ≤ u ∧ (ss.length : Int) ≤ L - u) (fun _ i => ss.length - (intOf i).toNat)
    case atStart => exact ⟨0, L - ss.length, Nat.zero_le _, rfl, rfl, by omega, by omega⟩
    case round =>
      obtain ⟨k, u, hk, rfl, rfl, hu, hle⟩ := hrel
      by_cases hlt : k < ss.length
      · obtain ⟨b, off, rfl, hb, hck⟩ := hA.str k hlt
        have hsk := hs ss[k] (by simp)
        unfold maxLen at hsk
        obtain ⟨x, hx⟩ : ∃ x, x = ss[k] := ⟨_, rfl⟩
        rw [← hx] at hck hsk
        clear hx
        by_cases hz : u < (x.size : Int)
        · have hz' : u - (x.size : Int) < 0 := by omega
          go_wp2
          go_ret
          exact ⟨_, rfl, Below.refl _ _, by intro h; omega⟩
        · have hz' : ¬ u - (x.size : Int) < 0 := by omega
          go_wp2
          go_round
          case rel => exact ⟨k + 1, u - x.size, by omega, by go_num, rfl, by omega, by omega⟩
          case measure => simp [intOf]; omega
      · have hke : k = ss.length := by omega
        subst hke
        go_wp2
        go_ret
        exact ⟨_, rfl, Below.refl _ _, fun _ => by omega⟩

set_option maxHeartbeats 400000 in
theorem sz_wait (n : Int) (t : ByteArray) (L : Int) (w : World) (hL0 : 0 ≤ L) (hL : L ≤ 1048576) (ht : t.size ≤ maxLen) :
    Calls Try.prog 134 #[.agg #[.int .i64 n, .string t], .int .i64 L] w fun e w' => ∃ z : Int, e = .returned (.int .i64 z) ∧ Below w.heap.size w w' ∧ (0 ≤ z → z ≤ L) ∧ -1 ≤ z := by
  unfold maxLen at ht
  by_cases hz : L < (t.size : Int)
  · have hz' : L - (t.size : Int) < 0 := by omega
    go_enter Try.func134, Try.ntmps134
    go_wp2
    go_ret
    exact ⟨_, rfl, (Below.refl _ _).alloc (Nat.le_refl _) _, by intro h; omega, by omega⟩
  · have hz' : ¬ L - (t.size : Int) < 0 := by omega
    go_enter Try.func134, Try.ntmps134
    go_wp2
    go_ret
    exact ⟨_, rfl, (Below.refl _ _).alloc (Nat.le_refl _) _, by intro h; omega, by omega⟩

set_option maxHeartbeats 1000000 in
theorem sz_waits (A : Option Addr) (cap : Nat) (ws : List Wt) (L : Int) (w : World) (hL0 : 0 ≤ L) (hL : L ≤ 1048576) (hn : ws.length ≤ maxLen) (hs : ∀ x ∈ ws, x.text.size ≤ maxLen) (hA : Lies w A (wtCells ws)) :
    Calls Try.prog 110 #[.slice A ws.length cap, .int .i64 L] w (SzPost ws.length L w) := by
  unfold maxLen at hn
  by_cases h0 : L < (ws.length : Int)
  · have h0' : L - (ws.length : Int) < 0 := by omega
    go_enter Try.func110, Try.ntmps110
    go_wp2
    go_ret
    exact ⟨_, rfl, Below.refl _ _, by intro h; omega⟩
  · have h0' : ¬ L - (ws.length : Int) < 0 := by omega
    go_enter Try.func110, Try.ntmps110
    go_wp2
    go_loopw [1, 5] (fun z i wr => ∃ (k : Nat) (u : Int), k ≤ ws.length ∧ i = .int .i64 k ∧ z = .int .i64 u ∧ 0 ≤ u ∧ (ws.length : Int) ≤ L - u ∧ Below w.heap.size w wr) (fun _ i _ => ws.length - (intOf i).toNat)
    case atStart => exact ⟨0, L - ws.length, Nat.zero_le _, rfl, rfl, by omega, by omega, Below.refl _ _⟩
    case round =>
      obtain ⟨k, u, hk, rfl, rfl, hu, hle, hb⟩ := hrel
      by_cases hlt : k < ws.length
      · obtain ⟨b, off, rfl, hlb, hc0, hc1⟩ := (hA.below hb).wt k hlt
        have hsk := hs ws[k] (by simp)
        have hW := fun w => sz_wait ws[k].num ws[k].text u w hu (by omega) hsk
        obtain ⟨x, hx⟩ : ∃ x, x = ws[k].text := ⟨_, rfl⟩
        obtain ⟨n, hn'⟩ : ∃ n, n = ws[k].num := ⟨_, rfl⟩
        rw [← hx] at hc1 hW
        rw [← hn'] at hc0 hW
        clear hx hn' hsk
        go_wp2_with (go_at_call 134; refine (hW _).mono ?_; rintro e w2 ⟨z, rfl, hb2, hz2, hz3⟩; have B2 := bel_then hb hb2; by_cases hzz : z < 0)
        · go_ret
          exact ⟨_, rfl, B2, by intro h; omega⟩
        · go_roundw
          case rel => exact ⟨k + 1, z, by omega, by go_num, rfl, by omega, by have := hz2 (by omega); omega, B2⟩
          case measure => simp [intOf]; omega
      · have hke : k = ws.length := by omega
        subst hke
        go_wp2
        go_ret
        exact ⟨_, rfl, hb, fun _ => by omega⟩
end Go.Proofs.Ytndckncoipkhaaa

namespace Go.Proofs.Ytndckncoipkhaaa
open Go.RowKit

theorem Try.info9 : (Try.prog.info? 9).map (fun i => (i.zero, i.size, i.bytes)) = some (some (.string ⟨#[]⟩), 1, 16) := by kernel_rfl
theorem Try.info94 : (Try.prog.info? 94).map (fun i => (i.zero, i.size, i.bytes)) = some (some (.agg #[.int .i64 0, .string ⟨#[]⟩]), 2, 24) := by kernel_rfl

theorem made_strs (n : Nat) : (madeCells (Value.cells (.string ⟨#[]⟩)) (n * 1)).toList = List.replicate n (Value.string ⟨#[]⟩) := by
  apply List.ext_getElem
  · simp [madeCells]
  · intro i h1 h2
    simp [madeCells, Value.cells, Nat.mod_one]
theorem set_next (ss : List ByteArray) (k m : Nat) (h : k < ss.length) (hm : ss.length - k = m + 1) :
    (strCells (ss.take k) ++ List.replicate (ss.length - k) (Value.string ⟨#[]⟩)).set k (Value.string ss[k]) = strCells (ss.take (k + 1)) ++ List.replicate (ss.length - (k + 1)) (Value.string ⟨#[]⟩) := by
  have hl : (strCells (ss.take k)).length = k := by simp [strCells]; omega
  rw [hm, show ss.length - (k + 1) = m by omega, List.set_append_right _ _ (by omega), hl, Nat.sub_self, List.replicate_succ, List.set_cons_zero,
    List.take_succ_eq_append_getElem h]
  unfold strCells
  rw [List.map_append, List.append_assoc]
  rfl

def ToPost (ss : List ByteArray) (w : World) (e : Ending) (w' : World) : Prop :=
  ∃ g, e = .returned (.slice (some ⟨g, 0, none⟩) ss.length ss.length) ∧ w'.ownsRow w.heap.size 9 1 (.slice (some ⟨g, 0, none⟩) ss.length ss.length) ss.length (strCells ss) ∧ Below w.heap.size w w'

set_option maxHeartbeats 1000000 in
theorem to_strs (A : Option Addr) (cap : Nat) (ss : List ByteArray) (w : World) (hn : ss.length ≤ 1048576) (hA : Lies w A (strCells ss)) :
    Calls Try.prog 111 #[.slice A ss.length cap] w (ToPost ss w) := by
  obtain ⟨i0, hi, hz0, hz1, hz2⟩ := info_parts Try.info9
  go_enter Try.func111, Try.ntmps111
  go_wp2_with (refine wpList_make_full _ rfl _ _ 57 rfl w.heap.size 9 i0 (.string ⟨#[]⟩) 1 Try.underlying57 hi hz0 hz1 _ _ _ _ ss.length rfl rfl rfl rfl (by rw [hz2]; omega) (by unfold maxLen; omega) (Nat.le_refl _) ?_; intro w1 hown hgrow; rw [made_strs] at hown)
  go_loopw [4] (fun i wr => ∃ k : Nat, k ≤ ss.length ∧ i = .int .i64 k ∧ wr.ownsRow w.heap.size 9 1 (.slice (some ⟨w.heap.size, 0, none⟩) ss.length ss.length) ss.length (strCells (ss.take k) ++ List.replicate (ss.length - k) (Value.string ⟨#[]⟩)) ∧ Below w.heap.size w wr) (fun i _ => ss.length - (intOf i).toNat)
  case atStart => exact ⟨0, Nat.zero_le _, rfl, by simpa [strCells] using hown, (Below.refl _ _).grown hgrow (Nat.le_refl _) (fun k e => by cases e)⟩
  case round =>
    obtain ⟨k, hk, rfl, ho, hb⟩ := hrel
    clear hown hgrow
    by_cases hlt : k < ss.length
    · obtain ⟨b, off, rfl, hlb, hck⟩ := (hA.below hb).str k hlt
      have hlen := ho.1
      have hcg : wr.cell? ⟨w.heap.size, k, none⟩ = some ((strCells (ss.take k) ++ List.replicate (ss.length - k) (Value.string ⟨#[]⟩))[k]'(by omega)) := by
        rw [ho.cellAt k (by omega)]
        exact List.getElem?_eq_getElem _
      have hfg := ho.frozenAt k
      obtain ⟨m, hm⟩ : ∃ m, ss.length - k = m + 1 := ⟨ss.length - k - 1, by omega⟩
      have hst := (ho.stored k (.string ss[k])).1
      have hsg := (ho.stored k (.string ss[k])).2
      rw [set_next ss k m hlt hm] at hst
      have B1 : Below w.heap.size w (wr.setCell ⟨w.heap.size, k, none⟩ (.string ss[k])) := hb.setCell (p := ⟨w.heap.size, k, none⟩) (Nat.le_refl _) _
      obtain ⟨y, hy⟩ : ∃ y, y = (strCells (ss.take k) ++ List.replicate (ss.length - k) (Value.string ⟨#[]⟩))[k]'(by omega) := ⟨_, rfl⟩
      rw [← hy] at hcg
      obtain ⟨x, hx⟩ : ∃ x, x = ss[k] := ⟨_, rfl⟩
      rw [← hx] at hck hst hsg B1
      clear hlen hm hy hx ho hb
      go_wp2
      go_roundw
      case rel => exact ⟨k + 1, by omega, by go_num, hst, B1⟩
      case measure => simp [intOf]; omega
    · have hke : k = ss.length := by omega
      subst hke
      rw [List.take_length, Nat.sub_self] at ho
      simp only [List.replicate_zero, List.append_nil] at ho
      go_wp2
      go_ret
      exact ⟨_, rfl, ho, hb⟩

set_option maxHeartbeats 1000000 in
theorem to_wait (n : Int) (t : ByteArray) (w : World) :
    Calls Try.prog 135 #[.agg #[.int .i64 n, .string t]] w fun e w' => e = .returned (.agg #[.int .i64 n, .string t]) ∧ Below w.heap.size w w' := by
  go_enter Try.func135, Try.ntmps135
  go_wp2
  exact bodyPost_ret (v := .agg #[.int .i64 n, .string t]) (by simp [results, Try.f135, go_sem]) rfl ⟨rfl, (by
    exact bel_new (bel_new (bel_new (Below.refl _ _) _) _) _)⟩

def wz : List Value := [.int .i64 0, .string ⟨#[]⟩]
def wzeros (n : Nat) : List Value := (List.replicate n wz).flatten
theorem wzeros_succ (n : Nat) : wzeros (n + 1) = wz ++ wzeros n := by simp [wzeros, List.replicate_succ]
theorem wzeros_at : ∀ (n k : Nat), k < n → (wzeros n)[k * 2]? = some (.int .i64 0) ∧ (wzeros n)[k * 2 + 1]? = some (.string ⟨#[]⟩)
  | n + 1, 0, _ => by rw [wzeros_succ]; exact ⟨rfl, rfl⟩
  | n + 1, k + 1, h => by
    have ih := wzeros_at n k (by omega)
    rw [wzeros_succ]
    constructor
    · rw [List.getElem?_append_right (by show 2 ≤ _; omega)]
      show (wzeros n)[(k + 1) * 2 - 2]? = _
      rw [show (k + 1) * 2 - 2 = k * 2 by omega]
      exact ih.1
    · rw [List.getElem?_append_right (by show 2 ≤ _; omega)]
      show (wzeros n)[(k + 1) * 2 + 1 - 2]? = _
      rw [show (k + 1) * 2 + 1 - 2 = k * 2 + 1 by omega]
      exact ih.2
theorem wzeros_len (n : Nat) : (wzeros n).length = n * 2 := by
  induction n with
  | zero => rfl
  | succ n ih =>
    rw [wzeros_succ, List.length_append, ih]
    show 2 + _ = _
    omega
theorem made_waits (n : Nat) : (madeCells (Value.cells (.agg #[.int .i64 0, .string ⟨#[]⟩])) (n * 2)).toList = wzeros n := by
  apply List.ext_getElem?
  intro i
  by_cases h : i < n * 2
  · have hl : i < (madeCells (Value.cells (.agg #[.int .i64 0, .string ⟨#[]⟩])) (n * 2)).toList.length := by simp [madeCells]; exact h
    rw [List.getElem?_eq_getElem hl]
    obtain ⟨q, hq⟩ : ∃ q, q = i / 2 := ⟨_, rfl⟩
    have hz := wzeros_at n q (by omega)
    rcases (show i = q * 2 ∨ i = q * 2 + 1 by omega) with rfl | rfl
    · rw [hz.1]
      simp [madeCells, Value.cells]
    · rw [hz.2]
      simp [madeCells, Value.cells]
  · rw [List.getElem?_eq_none (by simp [madeCells]; omega), List.getElem?_eq_none (by rw [wzeros_len]; omega)]
theorem set_two (a b : Value) (L R : List Value) (x y : Value) (k : Nat) (hl : L.length = k) : ((L ++ a :: b :: R).set k x).set (k + 1) y = L ++ x :: y :: R := by
  subst hl
  rw [List.set_append_right _ _ (Nat.le_refl _), Nat.sub_self, List.set_cons_zero, List.set_append_right _ _ (Nat.le_succ _), show L.length + 1 - L.length = 1 by omega]
  rfl
theorem wt_more (ws : List Wt) (k : Nat) (h : k < ws.length) : wtCells (ws.take (k + 1)) = wtCells (ws.take k) ++ ws[k].cells := by
  rw [List.take_succ_eq_append_getElem h, wtCells_app]
  simp [wtCells]
theorem own_set2 {W : World} {base g n cap k : Nat} {ws : List Wt} {R : List Value} (h : W.ownsRow base 94 2 (.slice (some ⟨g, 0, none⟩) n cap) n (wtCells (ws.take k) ++ wz ++ R)) (hk : k < ws.length) :
    ((W.setCell ⟨g, k * 2, none⟩ (.int .i64 ws[k].num)).setCell ⟨g, k * 2 + 1, none⟩ (.string ws[k].text)).ownsRow base 94 2 (.slice (some ⟨g, 0, none⟩) n cap) n (wtCells (ws.take (k + 1)) ++ R) := by
  have h6 := (((h.stored (k * 2) (.int .i64 ws[k].num)).1).stored (k * 2 + 1) (.string ws[k].text)).1
  have hl : (wtCells (ws.take k)).length = k * 2 := by rw [wtCells_len, List.length_take]; omega
  rw [show wtCells (ws.take k) ++ wz ++ R = wtCells (ws.take k) ++ (.int .i64 0) :: (.string ⟨#[]⟩) :: R by simp [wz], set_two _ _ _ R _ _ (k * 2) hl] at h6
  rw [wt_more ws k hk]
  simpa [Wt.cells] using h6
theorem own_cells2 {W : World} {base g n cap k : Nat} {ws : List Wt} {R : List Value} (h : W.ownsRow base 94 2 (.slice (some ⟨g, 0, none⟩) n cap) n (wtCells (ws.take k) ++ wz ++ R)) (hk : k < ws.length) (hn : k < n) :
    W.cell? ⟨g, k * 2, none⟩ = some (.int .i64 0) ∧ W.cell? ⟨g, k * 2 + 1, none⟩ = some (.string ⟨#[]⟩) := by
  have hl : (wtCells (ws.take k)).length = k * 2 := by rw [wtCells_len, List.length_take]; omega
  constructor
  · rw [h.cellAt (k * 2) (by omega), List.append_assoc, List.getElem?_append_right (by omega), hl, Nat.sub_self]
    rfl
  · rw [h.cellAt (k * 2 + 1) (by omega), List.append_assoc, List.getElem?_append_right (by omega), hl, show k * 2 + 1 - k * 2 = 1 by omega]
    rfl

def ToPostW (ws : List Wt) (w : World) (e : Ending) (w' : World) : Prop :=
  ∃ g, e = .returned (.slice (some ⟨g, 0, none⟩) ws.length ws.length) ∧ w'.ownsRow w.heap.size 94 2 (.slice (some ⟨g, 0, none⟩) ws.length ws.length) ws.length (wtCells ws) ∧ Below w.heap.size w w'

set_option maxHeartbeats 1000000 in
theorem to_waits (A : Option Addr) (cap : Nat) (ws : List Wt) (w : World) (hn : ws.length ≤ 1048576) (hA : Lies w A (wtCells ws)) :
    Calls Try.prog 112 #[.slice A ws.length cap] w (ToPostW ws w) := by
  obtain ⟨i0, hi, hz0, hz1, hz2⟩ := info_parts Try.info94
  go_enter Try.func112, Try.ntmps112
  go_wp2_with (refine wpList_make_full _ rfl _ _ 58 rfl w.heap.size 94 i0 (.agg #[.int .i64 0, .string ⟨#[]⟩]) 2 Try.underlying58 hi hz0 hz1 _ _ _ _ ws.length rfl rfl rfl rfl (by rw [hz2]; omega) (by unfold maxLen; omega) (Nat.le_refl _) ?_; intro w1 hown hgrow; rw [made_waits] at hown)
  go_loopw [4] (fun i wr => ∃ k : Nat, k ≤ ws.length ∧ i = .int .i64 k ∧ wr.ownsRow w.heap.size 94 2 (.slice (some ⟨w.heap.size, 0, none⟩) ws.length ws.length) ws.length (wtCells (ws.take k) ++ wzeros (ws.length - k)) ∧ Below w.heap.size w wr) (fun i _ => ws.length - (intOf i).toNat)
  case atStart => exact ⟨0, Nat.zero_le _, rfl, hown, (Below.refl _ _).grown hgrow (Nat.le_refl _) (fun k e => by cases e)⟩
  case round =>
    obtain ⟨k, hk, rfl, ho, hb⟩ := hrel
    clear hown hgrow
    by_cases hlt : k < ws.length
    · obtain ⟨b, off, rfl, hlb, y0, y1⟩ := (hA.below hb).wt k hlt
      obtain ⟨m, hm⟩ : ∃ m, ws.length - k = m + 1 := ⟨ws.length - k - 1, by omega⟩
      have hm1 : ws.length - (k + 1) = m := by omega
      rw [hm, wzeros_succ, ← List.append_assoc] at ho
      have hT := fun W => to_wait ws[k].num ws[k].text W
      obtain ⟨n, hn'⟩ : ∃ n, n = ws[k].num := ⟨_, rfl⟩
      obtain ⟨t, ht'⟩ : ∃ t, t = ws[k].text := ⟨_, rfl⟩
      rw [← hn'] at y0 hT
      rw [← ht'] at y1 hT
      have HM := Lib.hid hm1
      have HN := Lib.hid hn'
      have HT := Lib.hid ht'
      clear hm hm1 hn' ht'
      go_wp2_with (go_at_call 135; refine (hT _).mono ?_; rintro r w2 ⟨rfl, hb2⟩; have ho2 := own_bel ho hb2; obtain ⟨z0, z1⟩ := own_cells2 ho2 hlt hlt; have f0 := ho2.frozenAt (k * 2); have f1 := ho2.frozenAt (k * 2 + 1))
      have B5 := ((bel_then hb hb2).setCell (p := ⟨w.heap.size, k * 2, none⟩) (Nat.le_refl _) (.int .i64 n)).setCell (p := ⟨w.heap.size, k * 2 + 1, none⟩) (Nat.le_refl _) (.string t)
      go_roundw
      case rel => exact ⟨k + 1, by omega, by go_num, by rw [HM.out, HN.out, HT.out]; exact own_set2 ho2 hlt, B5⟩
      case measure => simp [intOf]; omega
    · have hke : k = ws.length := by omega
      subst hke
      rw [List.take_length, Nat.sub_self] at ho
      rw [show wzeros 0 = [] from rfl, List.append_nil] at ho
      go_wp2
      go_ret
      exact ⟨_, rfl, ho, hb⟩

/-- The disk d lies behind two slice addresses. -/
def DkAt (w : World) (A B : Option Addr) (d : Dk) : Prop := Lies w A (strCells d.cells) ∧ Lies w B (wtCells d.waits)
theorem DkAt.below {w w' : World} {A B : Option Addr} {d : Dk} (h : DkAt w A B d) (hb : Below w.heap.size w w') : DkAt w' A B d := ⟨h.1.below hb, h.2.below hb⟩
/-- The disk d lies in memory of the call's own. -/
def DkOwn (w : World) (base : Nat) (v : Value) (d : Dk) : Prop :=
  ∃ (t : TypeId) (u1 u2 : Value), v = .agg #[u1, u2, .bool d.gone] ∧ (t = 9 ∨ t = 84) ∧ w.ownsRow base t 1 u1 d.cells.length (strCells d.cells) ∧ w.ownsRow base 94 2 u2 d.waits.length (wtCells d.waits)
theorem DkOwn.below {w w' : World} {base : Nat} {v : Value} {d : Dk} (h : DkOwn w base v d) (hb : Below w.heap.size w w') : DkOwn w' base v d := by
  obtain ⟨t, u1, u2, e, ht, h1, h2⟩ := h
  exact ⟨t, u1, u2, e, ht, own_bel h1 hb, own_bel h2 hb⟩
theorem own_base {w : World} {base base' : Nat} {t : TypeId} {sz n : Nat} {v : Value} {xs : List Value} (h : w.ownsRow base t sz v n xs) (hb : base' ≤ base) : w.ownsRow base' t sz v n xs := by
  refine ⟨h.1, ?_⟩
  rcases h.2 with h | ⟨g, cap, cur, rfl, hg, r⟩
  · exact .inl h
  · exact .inr ⟨g, cap, cur, rfl, Nat.le_trans hb hg, r⟩
theorem DkOwn.base {w : World} {base base' : Nat} {v : Value} {d : Dk} (h : DkOwn w base v d) (hb : base' ≤ base) : DkOwn w base' v d := by
  obtain ⟨t, u1, u2, e, ht, h1, h2⟩ := h
  exact ⟨t, u1, u2, e, ht, own_base h1 hb, own_base h2 hb⟩
theorem DkOwn.at_ {w : World} {base : Nat} {v : Value} {d : Dk} (h : DkOwn w base v d) : ∃ A c B e, v = .agg #[.slice A d.cells.length c, .slice B d.waits.length e, .bool d.gone] ∧ DkAt w A B d := by
  obtain ⟨t, u1, u2, rfl, ht, h1, h2⟩ := h
  obtain ⟨A, c, rfl, l1⟩ := own_lies h1
  obtain ⟨B, e, rfl, l2⟩ := own_lies h2
  exact ⟨A, c, B, e, rfl, l1, l2⟩

def DkPost (d : Dk) (w : World) (e : Ending) (w' : World) : Prop := ∃ v, e = .returned v ∧ DkOwn w' w.heap.size v d ∧ Below w.heap.size w w'
end Go.Proofs.Ytndckncoipkhaaa

namespace Go.Proofs.Ytndckncoipkhaaa
open Go.RowKit

theorem bcell {W w1 : World} (hb : Below W.heap.size W w1) : (∀ b o, b < W.heap.size → w1.cell? ⟨b, o, none⟩ = W.cell? ⟨b, o, none⟩) ∧ (∀ b o, b < W.heap.size → w1.frozen? ⟨b, o, none⟩ = W.frozen? ⟨b, o, none⟩) :=
  ⟨fun b o h => hb.cell (p := ⟨b, o, none⟩) h, fun b o h => hb.frozen (p := ⟨b, o, none⟩) h⟩

set_option maxHeartbeats 1000000 in
theorem sz_disk (A B : Option Addr) (c e : Nat) (d : Dk) (L : Int) (w : World) (hL0 : 0 ≤ L) (hL : L ≤ 1048576) (hn : d.cells.length ≤ maxLen) (hs : ∀ s ∈ d.cells, s.size ≤ maxLen) (hm : d.waits.length ≤ maxLen) (ht : ∀ x ∈ d.waits, x.text.size ≤ maxLen) (hA : DkAt w A B d) :
    Calls Try.prog 83 #[.agg #[.slice A d.cells.length c, .slice B d.waits.length e, .bool d.gone], .int .i64 L] w (SzPost (d.cells.length + d.waits.length) L w) := by
  have hS := fun W hW => sz_strs A c d.cells L W hL0 hL hn hs (hA.1.below (w' := W) hW)
  have hT := fun L2 W h1 h2 hW => sz_waits B e d.waits L2 W h1 h2 hm ht (hA.2.below (w' := W) hW)
  obtain ⟨n, hn'⟩ : ∃ n, n = d.cells.length := ⟨_, rfl⟩
  obtain ⟨m, hm'⟩ : ∃ m, m = d.waits.length := ⟨_, rfl⟩
  rw [← hn'] at hS ⊢
  rw [← hm'] at hT ⊢
  clear hn hm hs ht hA hn' hm'
  go_enter Try.func83, Try.ntmps83
  go_wp2_with (first
    | (go_at_call 109; refine (hS _ (bel_new (Below.refl _ _) _)).mono ?_; rintro r w2 ⟨z, rfl, hb2, hz⟩; have B2 := bel_then (bel_new (Below.refl _ _) _) hb2; obtain ⟨hc, hf⟩ := bcell hb2; by_cases hzz : z < 0)
    | (go_at_call 110; refine (hT _ _ (by omega) (by have := hz (by omega); omega) B2).mono ?_; rintro r w3 ⟨y, rfl, hb3, hy⟩; have B3 := bel_then B2 hb3; by_cases hyy : y < 0))
  · go_ret
    exact ⟨_, rfl, B2, by intro h; omega⟩
  · go_ret
    exact ⟨_, rfl, B3, by intro h; omega⟩
  · go_ret
    exact ⟨_, rfl, B3, by intro h; have := hz (by omega); have := hy (by omega); omega⟩

theorem own_set {w : World} {base : Nat} {t : TypeId} {sz n : Nat} {v : Value} {xs : List Value} (h : w.ownsRow base t sz v n xs) {p : Addr} (hp : p.block < base) (u : Value) : (w.setCell p u).ownsRow base t sz v n xs :=
  h.kept (row := some p.block) ⟨rfl, rfl, rfl, by simp [World.setCell], fun k _ hk => Below.heap_setCell _ _ _ k (fun e => hk (by rw [e]))⟩ (.inr (fun e => by have := (h.lt _ e).1; omega))
theorem size_set (w : World) (p : Addr) (u : Value) : (w.setCell p u).heap.size = w.heap.size := by simp [World.setCell]

set_option maxHeartbeats 1000000 in
theorem to_disk (A B : Option Addr) (c e : Nat) (d : Dk) (w : World) (hn : d.cells.length ≤ 1048576) (hm : d.waits.length ≤ 1048576) (hA : DkAt w A B d) :
    Calls Try.prog 85 #[.agg #[.slice A d.cells.length c, .slice B d.waits.length e, .bool d.gone]] w (DkPost d w) := by
  have hS := fun W hW => to_strs A c d.cells W hn (hA.1.below (w' := W) hW)
  have hT := fun W hW => to_waits B e d.waits W hm (hA.2.below (w' := W) hW)
  go_enter Try.func85, Try.ntmps85
  go_wp2_with (first
    | (go_at_call 111; refine (hS _ (bel_new (bel_new (bel_new (Below.refl _ _) _) _) _)).mono ?_; rintro r w2 ⟨g, rfl, ho, hb2⟩; have B2 := bel_then (bel_new (bel_new (bel_new (Below.refl _ _) _) _) _) hb2; obtain ⟨hc, hf⟩ := bcell hb2; have s2 : w.heap.size + 1 + 1 + 1 ≤ w2.heap.size := (by have := hb2.size; simpa using this); have q0 : w.heap.size < w2.heap.size := (by omega); have q1 : w.heap.size + 1 < w2.heap.size := (by omega); have q2 : w.heap.size + 1 + 1 < w2.heap.size := (by omega))
    | (go_at_call 112; refine (hT _ (B2.setCell (p := ⟨w.heap.size + 1 + 1, 0, none⟩) (by show w.heap.size ≤ w.heap.size + 1 + 1; omega) _)).mono ?_; rintro r w3 ⟨g2, rfl, ho2, hb3⟩; have ho3 := own_base (base' := w.heap.size + 1 + 1 + 1) (own_bel (own_set (p := ⟨w.heap.size + 1 + 1, 0, none⟩) ho (by simp) _) hb3) (by simp); rw [size_set] at ho2; have ho4 := own_base (base' := w.heap.size + 1 + 1 + 1) ho2 s2; have B3 := bel_then (B2.setCell (p := ⟨w.heap.size + 1 + 1, 0, none⟩) (by show w.heap.size ≤ w.heap.size + 1 + 1; omega) _) hb3; obtain ⟨hc3, hf3⟩ := bcell hb3; rw [size_set] at hc3 hf3))
  have fin : ∀ {W : World} {tt : TypeId} {sz n : Nat} {v : Value} {xs : List Value}, W.ownsRow (w.heap.size + 1 + 1 + 1) tt sz v n xs → ∀ a b c d e : Value, (((((W.setCell ⟨w.heap.size + 1 + 1, 1, none⟩ a).setCell ⟨w.heap.size + 1 + 1, 2, none⟩ b).setCell ⟨w.heap.size + 1, 0, none⟩ c).setCell ⟨w.heap.size + 1, 1, none⟩ d).setCell ⟨w.heap.size + 1, 2, none⟩ e).ownsRow w.heap.size tt sz v n xs := fun h a b c d e =>
    own_base (own_set (own_set (own_set (own_set (own_set h (by show w.heap.size + 1 + 1 < _; omega) _) (by show w.heap.size + 1 + 1 < _; omega) _) (by show w.heap.size + 1 < _; omega) _) (by show w.heap.size + 1 < _; omega) _) (by show w.heap.size + 1 < _; omega) _) (by omega)
  refine bodyPost_ret (v := .agg #[.slice (some ⟨g, 0, none⟩) d.cells.length d.cells.length, .slice (some ⟨g2, 0, none⟩) d.waits.length d.waits.length, .bool d.gone]) (by simp [results, Try.f85, go_sem, *]) rfl ⟨_, rfl, ⟨9, _, _, rfl, .inl rfl, fin ho3 _ _ _ _ _, fin ho4 _ _ _ _ _⟩, ?_⟩
  exact ((((B3.setCell (by show w.heap.size ≤ w.heap.size + 1 + 1; omega) _).setCell (by show w.heap.size ≤ w.heap.size + 1 + 1; omega) _).setCell (by show w.heap.size ≤ w.heap.size + 1; omega) _).setCell (by show w.heap.size ≤ w.heap.size + 1; omega) _).setCell (by show w.heap.size ≤ w.heap.size + 1; omega) _

theorem DkOwn.set {W : World} {base : Nat} {v : Value} {d : Dk} (h : DkOwn W base v d) {p : Addr} (hp : p.block < base) (u : Value) : DkOwn (W.setCell p u) base v d := by
  obtain ⟨t, u1, u2, e, ht, h1, h2⟩ := h
  exact ⟨t, u1, u2, e, ht, own_set h1 hp u, own_set h2 hp u⟩
theorem DkOwn.box {W : World} {base R : Nat} {v : Value} {d : Dk} (h : DkOwn W base v d) (hR : R < base) (a b c : Value) : DkOwn (((W.setCell ⟨R, 0, none⟩ a).setCell ⟨R, 1, none⟩ b).setCell ⟨R, 2, none⟩ c) base v d :=
  ((h.set (p := ⟨R, 0, none⟩) hR a).set (p := ⟨R, 1, none⟩) hR b).set (p := ⟨R, 2, none⟩) hR c
theorem bel_box {w W : World} {R : Nat} (h : Below w.heap.size w W) (hR : w.heap.size ≤ R) (a b c : Value) : Below w.heap.size w (((W.setCell ⟨R, 0, none⟩ a).setCell ⟨R, 1, none⟩ b).setCell ⟨R, 2, none⟩ c) :=
  ((h.setCell (p := ⟨R, 0, none⟩) hR a).setCell (p := ⟨R, 1, none⟩) hR b).setCell (p := ⟨R, 2, none⟩) hR c
end Go.Proofs.Ytndckncoipkhaaa

namespace Go.Proofs.Ytndckncoipkhaaa
open Go.RowKit

set_option maxHeartbeats 1000000 in
theorem eq_strs (A B : Option Addr) (ca cb : Nat) (ss : List ByteArray) (w : World) (hn : ss.length ≤ 1048576) (hA : Lies w A (strCells ss)) (hB : Lies w B (strCells ss)) :
    Calls Try.prog 106 #[.slice A ss.length ca, .slice B ss.length cb] w fun e w' => e = .returned (.bool true) ∧ Below w.heap.size w w' := by
  have hq0 : ((ss.length : Int) != (ss.length : Int)) = false := by simp
  go_enter Try.func106, Try.ntmps106
  go_wp2
  go_loopw [5] (fun i wr => ∃ k : Nat, k ≤ ss.length ∧ i = .int .i64 k ∧ Below w.heap.size w wr) (fun i _ => ss.length - (intOf i).toNat)
  case atStart => exact ⟨0, Nat.zero_le _, rfl, Below.refl _ _⟩
  case round =>
    obtain ⟨k, hk, rfl, hb⟩ := hrel
    by_cases hlt : k < ss.length
    · obtain ⟨b, off, rfl, hlb, hck⟩ := (hA.below hb).str k hlt
      obtain ⟨b2, off2, rfl, hlb2, hck2⟩ := (hB.below hb).str k hlt
      obtain ⟨x, hx⟩ : ∃ x, x = ss[k] := ⟨_, rfl⟩
      rw [← hx] at hck hck2
      have hq : (!x.toList == x.toList) = false := by simp
      have hlt' : (k : Int) < (ss.length : Int) := by omega
      clear hx
      go_wp2_with fail
      go_quiet (fail)
      go_wp2
      go_roundw
      case rel => exact ⟨k + 1, by omega, by go_num, below_drewN hb _⟩
      case measure => simp [intOf]; omega
    · have hke : k = ss.length := by omega
      subst hke
      go_wp2
      go_ret
      exact ⟨rfl, hb⟩

set_option maxHeartbeats 1000000 in
theorem eq_wait (n : Int) (t : ByteArray) (w : World) :
    Calls Try.prog 133 #[.agg #[.int .i64 n, .string t], .agg #[.int .i64 n, .string t]] w fun e w' => e = .returned (.bool true) ∧ Below w.heap.size w w' := by
  have hq : (!t.toList == t.toList) = false := by simp
  have hn : (n != n) = false := by simp
  go_enter Try.func133, Try.ntmps133
  go_wp2_with fail
  go_ret
  exact ⟨rfl, bel_new (bel_new (Below.refl _ _) _) _⟩

/-- The cells of two waiting writes, kept. -/
def TwoW (w : World) (g x h y : Nat) (n : Int) (t : ByteArray) (W : World) : Prop :=
  W.cell? ⟨g, x, none⟩ = some (.int .i64 n) ∧ W.cell? ⟨g, x + 1, none⟩ = some (.string t) ∧ W.cell? ⟨h, y, none⟩ = some (.int .i64 n) ∧ W.cell? ⟨h, y + 1, none⟩ = some (.string t) ∧ g < W.heap.size ∧ h < W.heap.size ∧ Below w.heap.size w W
theorem TwoW.next {w W W' : World} {g x h y : Nat} {n : Int} {t : ByteArray} (k : TwoW w g x h y n t W) (hb : Below W.heap.size W W') : TwoW w g x h y n t W' := by
  obtain ⟨a0, a1, b0, b1, hg, hh, hw⟩ := k
  exact ⟨(hb.cell hg).trans a0, (hb.cell hg).trans a1, (hb.cell hh).trans b0, (hb.cell hh).trans b1, Nat.lt_of_lt_of_le hg hb.size, Nat.lt_of_lt_of_le hh hb.size, bel_then hw hb⟩
theorem TwoW.drew {w W : World} {g x h y : Nat} {n : Int} {t : ByteArray} (k : TwoW w g x h y n t W) : TwoW w g x h y n t W.drew := by
  obtain ⟨a0, a1, b0, b1, hg, hh, hw⟩ := k
  exact ⟨a0, a1, b0, b1, hg, hh, hw.drew⟩

set_option maxRecDepth 100000 in
set_option maxHeartbeats 2000000 in
theorem eq_waits (A B : Option Addr) (ca cb : Nat) (ws : List Wt) (w : World) (hn : ws.length ≤ 1048576) (hA : Lies w A (wtCells ws)) (hB : Lies w B (wtCells ws)) :
    Calls Try.prog 107 #[.slice A ws.length ca, .slice B ws.length cb] w fun e w' => e = .returned (.bool true) ∧ Below w.heap.size w w' := by
  have hq0 : ((ws.length : Int) != (ws.length : Int)) = false := by simp
  go_enter Try.func107, Try.ntmps107
  go_wp2
  go_loopw [5] (fun i wr => ∃ k : Nat, k ≤ ws.length ∧ i = .int .i64 k ∧ Below w.heap.size w wr) (fun i _ => ws.length - (intOf i).toNat)
  case atStart => exact ⟨0, Nat.zero_le _, rfl, Below.refl _ _⟩
  case round =>
    obtain ⟨k, hk, rfl, hb⟩ := hrel
    by_cases hlt : k < ws.length
    · obtain ⟨b, off, rfl, hlb, y0, y1⟩ := (hA.below hb).wt k hlt
      obtain ⟨b2, off2, rfl, hlb2, z0, z1⟩ := (hB.below hb).wt k hlt
      obtain ⟨x, hx⟩ : ∃ x, x = ws[k].text := ⟨_, rfl⟩
      obtain ⟨n, hn'⟩ : ∃ n, n = ws[k].num := ⟨_, rfl⟩
      rw [← hx] at y1 z1
      rw [← hn'] at y0 z0
      have hE := fun W => eq_wait n x W
      have hlt' : (k : Int) < (ws.length : Int) := by omega
      clear hx hn'
      have K0 : TwoW wr b (off + k * 2) b2 (off2 + k * 2) n x wr := ⟨y0, y1, z0, z1, hlb, hlb2, Below.refl _ _⟩
      have K1 := K0.drew
      go_wp2_with fail
      go_region_held3 (fun W => W.cell? ⟨b, off + k * 2, none⟩ = some (.int .i64 n) ∧ W.cell? ⟨b, off + k * 2 + 1, none⟩ = some (.string x) ∧ W.cell? ⟨b2, off2 + k * 2, none⟩ = some (.int .i64 n) ∧ W.cell? ⟨b2, off2 + k * 2 + 1, none⟩ = some (.string x) ∧ b < W.heap.size ∧ b2 < W.heap.size ∧ Below wr.heap.size wr W)
        ((show TwoW wr b (off + k * 2) b2 (off2 + k * 2) n x _; with_reducible (first | exact K0 | exact K1 | exact hk2)))
        (first | (go_at_call 133; refine (hE _).mono ?_; rintro r w2 ⟨rfl, hb2⟩; have hk2 := K1.next hb2))
      have W2 : Below wr.heap.size wr w2 := hk2.2.2.2.2.2.2
      go_wp2_with fail
      go_roundw
      case rel => exact ⟨k + 1, by omega, by go_num, bel_then hb W2⟩
      case measure => simp [intOf]; omega
    · have hke : k = ws.length := by omega
      subst hke
      go_wp2
      go_ret
      exact ⟨rfl, hb⟩

set_option maxHeartbeats 1000000 in
theorem eq_disk (A B A2 B2 : Option Addr) (c e c2 e2 : Nat) (d : Dk) (w : World) (hn : d.cells.length ≤ 1048576) (hm : d.waits.length ≤ 1048576) (h1 : DkAt w A B d) (h2 : DkAt w A2 B2 d) :
    Calls Try.prog 78 #[.agg #[.slice A d.cells.length c, .slice B d.waits.length e, .bool d.gone], .agg #[.slice A2 d.cells.length c2, .slice B2 d.waits.length e2, .bool d.gone]] w fun r w' => r = .returned (.bool true) ∧ Below w.heap.size w w' := by
  have hS := fun W hW => eq_strs A A2 c c2 d.cells W hn (h1.1.below (w' := W) hW) (h2.1.below hW)
  have hT := fun W hW => eq_waits B B2 e e2 d.waits W hm (h1.2.below (w' := W) hW) (h2.2.below hW)
  have hg : (d.gone != d.gone) = false := by simp
  go_enter Try.func78, Try.ntmps78
  go_wp2_with (first
    | (go_at_call 106; refine (hS _ (bel_new (bel_new (Below.refl _ _) _) _)).mono ?_; rintro r w2 ⟨rfl, hb2⟩; have B2' := bel_then (bel_new (bel_new (Below.refl _ _) _) _) hb2; obtain ⟨hc, hf⟩ := bcell hb2; have s2 : w.heap.size + 1 + 1 ≤ w2.heap.size := (by have := hb2.size; simpa using this); have q0 : w.heap.size < w2.heap.size := (by omega); have q1 : w.heap.size + 1 < w2.heap.size := (by omega))
    | (go_at_call 107; refine (hT _ B2').mono ?_; rintro r w3 ⟨rfl, hb3⟩; have B3 := bel_then B2' hb3; obtain ⟨hc3, hf3⟩ := bcell hb3))
  go_ret
  exact ⟨rfl, B3⟩

theorem eq_own {w : World} {b1 b2 : Nat} {v1 v2 : Value} {d : Dk} (hn : d.cells.length ≤ 1048576) (hm : d.waits.length ≤ 1048576) (h1 : DkOwn w b1 v1 d) (h2 : DkOwn w b2 v2 d) :
    Calls Try.prog 78 #[v1, v2] w fun r w' => r = .returned (.bool true) ∧ Below w.heap.size w w' := by
  obtain ⟨A, c, B, e, rfl, l1⟩ := h1.at_
  obtain ⟨A2, c2, B2, e2, rfl, l2⟩ := h2.at_
  exact eq_disk A B A2 B2 c e c2 e2 d w hn hm l1 l2
end Go.Proofs.Ytndckncoipkhaaa

namespace Go.Proofs.Ytndckncoipkhaaa
open Go.RowKit

theorem grown_trans {a b c : World} {r : Option Nat} (h : a.grownBy b r) (k : b.grownBy c r) : a.grownBy c r :=
  ⟨k.os.trans h.os, k.tape.trans h.tape, k.output.trans h.output, Nat.le_trans h.size k.size, fun i hi hne => (k.block i (Nat.lt_of_lt_of_le hi h.size) hne).trans (h.block i hi hne)⟩
theorem below_grown {a b : World} (h : Below a.heap.size a b) (r : Option Nat) : a.grownBy b r := ⟨h.os, h.tape, h.output, h.size, fun k hk _ => h.block k hk⟩
theorem own_addr {w : World} {base : Nat} {t : TypeId} {sz n m c : Nat} {A : Option Addr} {xs : List Value} (h : w.ownsRow base t sz (.slice A m c) n xs) (hn : 0 < n) : ∃ g, A = some ⟨g, 0, none⟩ := by
  rcases h.2 with ⟨_, h0⟩ | ⟨g, cap, _, e, _⟩
  · omega
  · cases e
    exact ⟨g, rfl⟩

def marks (a n : Nat) : List ByteArray := (List.range n).map fun i => strOf (markL (a + i))
theorem marks_len (a n : Nat) : (marks a n).length = n := by simp [marks]
theorem marks_next (a n : Nat) : marks a (n + 1) = marks a n ++ [strOf (markL (a + n))] := by simp [marks, List.range_succ]
theorem marks_at (a n k : Nat) (h : k < n) : (strCells (marks a n))[k]? = some (.string (strOf (markL (a + k)))) := by
  simp [strCells, marks, h]
theorem set_mark (a : Nat) (ss : List ByteArray) (k : Nat) (h : k < ss.length) :
    (strCells (marks a k ++ ss.drop k)).set k (.string (strOf (markL (a + k)))) = strCells (marks a (k + 1) ++ ss.drop (k + 1)) := by
  have hl : (strCells (marks a k)).length = k := by simp [strCells, marks]
  rw [marks_next, List.drop_eq_getElem_cons h]
  simp only [strCells, List.map_append, List.map_cons, List.append_assoc] at hl ⊢
  rw [List.set_append_right _ _ (by omega), hl, Nat.sub_self, List.set_cons_zero]
  rfl

def MarkPost (base : Nat) (t : TypeId) (v : Value) (a n : Nat) (w : World) (e : Ending) (w' : World) : Prop :=
  e = .returned (.int .i64 ((a : Int) + (n : Int))) ∧ w'.ownsRow base t 1 v n (strCells (marks a n)) ∧ w.grownBy w' v.ownBlock

set_option maxHeartbeats 1000000 in
theorem mark_strs (base : Nat) (t : TypeId) (A : Option Addr) (c : Nat) (ss : List ByteArray) (a : Nat) (w : World) (ha : 1 ≤ a) (hn : a + ss.length ≤ 9999999) (ho : w.ownsRow base t 1 (.slice A ss.length c) ss.length (strCells ss)) :
    Calls Try.prog 79 #[.slice A ss.length c, .int .i64 (a : Int)] w (MarkPost base t (.slice A ss.length c) a ss.length w) := by
  go_enter Try.func79, Try.ntmps79
  go_wp2
  go_loopg [1, 5] ss.length (fun gh m i wr => ∃ k : Nat, gh = ss.length - k ∧ k ≤ ss.length ∧ i = .int .i64 k ∧ m = .int .i64 ((a : Int) + (k : Int)) ∧ wr.ownsRow base t 1 (.slice A ss.length c) ss.length (strCells (marks a k ++ ss.drop k)) ∧ w.grownBy wr (Value.slice A ss.length c).ownBlock)
  case atStart => exact ⟨0, rfl, Nat.zero_le _, rfl, by simp, by simpa [marks] using ho, World.grownBy.refl _ _⟩
  case round =>
    clear ho
    obtain ⟨k, hg, hk, rfl, rfl, ho, hb⟩ := hrel
    have HG := Lib.hid hg
    clear hg
    by_cases hlt : k < ss.length
    · obtain ⟨g, rfl⟩ := own_addr ho (by omega)
      have hM := mark_text ((a : Int) + (k : Int)) wr (by omega) (by omega)
      rw [show ((a : Int) + (k : Int)).toNat = a + k by omega] at hM
      have hset := set_mark a ss k hlt
      obtain ⟨x, hx⟩ : ∃ x, x = strOf (markL (a + k)) := ⟨_, rfl⟩
      rw [← hx] at hM hset
      have hlt' : (k : Int) < (ss.length : Int) := by omega
      have hw1 := IntWalk.i64_in ((a : Int) + (k : Int) + 1) (by omega)
      clear hx
      go_wp2_with (go_at_call 108; refine hM.mono ?_; rintro e w1 ⟨rfl, hb1⟩; refine Hid.out ?_)
      refine Lib.hid ?_
      have ho1 := own_bel ho hb1
      have g1 := grown_trans hb (below_grown hb1 _)
      clear ho hb hM hb1
      have hlen := ho1.1
      have hcg : w1.cell? ⟨g, k, none⟩ = some ((strCells (marks a k ++ ss.drop k))[k]'(by omega)) := by
        rw [ho1.cellAt k (by omega)]
        exact List.getElem?_eq_getElem _
      have hfg := ho1.frozenAt k
      have hst := (ho1.stored k (.string x)).1
      have hsg := (ho1.stored k (.string x)).2
      rw [hset] at hst
      have G2 := grown_trans g1 hsg
      obtain ⟨y, hy⟩ : ∃ y, y = (strCells (marks a k ++ ss.drop k))[k]'(by omega) := ⟨_, rfl⟩
      rw [← hy] at hcg
      clear hlen hy ho1 g1 hset
      go_wp2_with fail
      go_roundg (ss.length - (k + 1))
      case measure => have := HG.out; omega
      case rel => exact ⟨k + 1, rfl, by omega, by go_num, by go_num, hst, G2⟩
    · have hke : k = ss.length := by omega
      subst hke
      rw [List.drop_length, List.append_nil] at ho
      go_wp2_with fail
      go_ret
      exact ⟨rfl, ho, hb⟩

set_option maxRecDepth 100000 in
set_option maxHeartbeats 1000000 in
theorem held_strs (base : Nat) (t : TypeId) (A : Option Addr) (c n a : Nat) (w : World) (ha : 1 ≤ a) (hn : a + n ≤ 9999999) (ho : w.ownsRow base t 1 (.slice A n c) n (strCells (marks a n))) :
    Calls Try.prog 81 #[.slice A n c, .int .i64 (a : Int)] w fun e w' => e = .returned (.int .i64 ((a : Int) + (n : Int))) ∧ Below w.heap.size w w' := by
  go_enter Try.func81, Try.ntmps81
  go_wp2
  go_loopg [1, 5] n (fun gh m i wr => ∃ k : Nat, gh = n - k ∧ k ≤ n ∧ i = .int .i64 k ∧ m = .int .i64 ((a : Int) + (k : Int)) ∧ Below w.heap.size w wr)
  case atStart => exact ⟨0, rfl, Nat.zero_le _, rfl, by simp, Below.refl _ _⟩
  case round =>
    obtain ⟨k, hg, hk, rfl, rfl, hb⟩ := hrel
    have HG := Lib.hid hg
    clear hg
    by_cases hlt : k < n
    · obtain ⟨g, rfl⟩ := own_addr ho (by omega)
      have hM := fun w => mark_text ((a : Int) + (k : Int)) w (by omega) (by omega)
      have hor := own_bel ho hb
      have hgl := (hor.lt g rfl).2
      have hck : wr.cell? ⟨g, k, none⟩ = some (.string (strOf (markL (a + k)))) := by rw [hor.cellAt k (by omega), marks_at a n k hlt]
      rw [show ((a : Int) + (k : Int)).toNat = a + k by omega] at hM
      obtain ⟨x, hx⟩ : ∃ x, x = strOf (markL (a + k)) := ⟨_, rfl⟩
      rw [← hx] at hM hck
      have hq : (!x.toList == x.toList) = false := by simp
      have hlt' : (k : Int) < (n : Int) := by omega
      have hw1 := IntWalk.i64_in ((a : Int) + (k : Int) + 1) (by omega)
      have HO := Lib.hid ho
      clear hx hor ho
      go_upto_region 4 with fail
      go_cut [18] (fun s wx => s = .bool false ∧ Below w.heap.size w wx)
      case first =>
        go_region_with (go_at_call 108; refine (hM _).mono ?_; rintro e w1 ⟨rfl, hb1⟩; have hcw : w1.cell? ⟨g, k, none⟩ = some (.string x) := (hb1.cell (p := ⟨g, k, none⟩) (by simpa using hgl)).trans hck)
        all_goals clear hM
        all_goals go_wp2_with fail
        all_goals go_meet
        all_goals exact ⟨rfl, hb.drew.trans (hb1.mono hb.size)⟩
      case rest =>
        obtain ⟨rfl, hb2⟩ := hcut
        go_wp2_with fail
        go_roundg (n - (k + 1))
        case measure => have := HG.out; omega
        case rel => exact ⟨k + 1, rfl, by omega, by go_num, by go_num, hb2⟩
    · have hke : k = n := by omega
      subst hke
      go_wp2_with fail
      go_ret
      exact ⟨rfl, hb⟩
end Go.Proofs.Ytndckncoipkhaaa

namespace Go.Proofs.Ytndckncoipkhaaa
open Go.RowKit

def markW (a i : Nat) : Wt := ⟨((a + 2 * i : Nat) : Int), strOf (markL (a + 2 * i + 1))⟩
def marksW (a n : Nat) : List Wt := (List.range n).map (markW a)
theorem marksW_len (a n : Nat) : (marksW a n).length = n := by simp [marksW]
theorem marksW_next (a n : Nat) : marksW a (n + 1) = marksW a n ++ [markW a n] := by simp [marksW, List.range_succ]
theorem marksW_at (a n k : Nat) (h : k < n) : (wtCells (marksW a n))[k * 2]? = some (.int .i64 ((a + 2 * k : Nat) : Int)) ∧ (wtCells (marksW a n))[k * 2 + 1]? = some (.string (strOf (markL (a + 2 * k + 1)))) := by
  have h2 := wtCells_at (marksW a n) k (by rw [marksW_len]; exact h)
  have h3 : (marksW a n)[k]'(by rw [marksW_len]; exact h) = markW a k := by simp [marksW]
  rw [h3] at h2
  exact h2
theorem wt_split (a : Nat) (ws : List Wt) (k : Nat) (h : k < ws.length) : wtCells (marksW a k ++ ws.drop k) = wtCells (marksW a k) ++ (.int .i64 ws[k].num) :: (.string ws[k].text) :: wtCells (ws.drop (k + 1)) := by
  rw [List.drop_eq_getElem_cons h, wtCells_app]
  rfl
theorem set_markW (a : Nat) (ws : List Wt) (k : Nat) (h : k < ws.length) :
    ((wtCells (marksW a k ++ ws.drop k)).set (k * 2) (.int .i64 ((a + 2 * k : Nat) : Int))).set (k * 2 + 1) (.string (strOf (markL (a + 2 * k + 1)))) = wtCells (marksW a (k + 1) ++ ws.drop (k + 1)) := by
  rw [wt_split a ws k h, set_two _ _ _ _ _ _ (k * 2) (by rw [wtCells_len, marksW_len]), marksW_next, List.append_assoc, wtCells_app]
  rfl

def MarkPostW (base : Nat) (v : Value) (a n : Nat) (w : World) (e : Ending) (w' : World) : Prop :=
  e = .returned (.int .i64 ((a : Int) + 2 * (n : Int))) ∧ w'.ownsRow base 94 2 v n (wtCells (marksW a n)) ∧ w.grownBy w' v.ownBlock

set_option maxHeartbeats 1000000 in
theorem mark_waits (base : Nat) (A : Option Addr) (c : Nat) (ws : List Wt) (a : Nat) (w : World) (ha : 1 ≤ a) (hn : a + 2 * ws.length ≤ 9999999) (ho : w.ownsRow base 94 2 (.slice A ws.length c) ws.length (wtCells ws)) :
    Calls Try.prog 80 #[.slice A ws.length c, .int .i64 (a : Int)] w (MarkPostW base (.slice A ws.length c) a ws.length w) := by
  go_enter Try.func80, Try.ntmps80
  go_wp2
  go_loopg [1, 5] ws.length (fun gh m i wr => ∃ (k : Nat) (z : Int), gh = ws.length - k ∧ k ≤ ws.length ∧ i = .int .i64 k ∧ m = .int .i64 z ∧ z = (a : Int) + 2 * (k : Int) ∧ wr.ownsRow base 94 2 (.slice A ws.length c) ws.length (wtCells (marksW a k ++ ws.drop k)) ∧ w.grownBy wr (Value.slice A ws.length c).ownBlock)
  case atStart => exact ⟨0, a, rfl, Nat.zero_le _, rfl, rfl, by simp, by simpa [marksW] using ho, World.grownBy.refl _ _⟩
  case round =>
    clear ho
    obtain ⟨k, z, hg, hk, rfl, rfl, hz, ho, hb⟩ := hrel
    have HG := Lib.hid hg
    clear hg
    by_cases hlt : k < ws.length
    · obtain ⟨g, rfl⟩ := own_addr ho (by omega)
      have hM := fun W => mark_text (z + 1) W (by omega) (by omega)
      rw [show (z + 1).toNat = a + 2 * k + 1 by omega] at hM
      have hset := set_markW a ws k hlt
      rw [show ((a + 2 * k : Nat) : Int) = z by omega] at hset
      have hz1 : 1 ≤ z := by omega
      have hz2 : z ≤ 9999997 := by omega
      have HZ := Lib.hid hz
      clear hz
      have hsp := wt_split a ws k hlt
      have hl : (wtCells (marksW a k)).length = k * 2 := by rw [wtCells_len, marksW_len]
      obtain ⟨x, hx⟩ : ∃ x, x = strOf (markL (a + 2 * k + 1)) := ⟨_, rfl⟩
      rw [← hx] at hM hset
      have hc0 : wr.cell? ⟨g, k * 2, none⟩ = some (.int .i64 ws[k].num) := by
        rw [ho.cellAt (k * 2) (by omega), hsp, List.getElem?_append_right (by omega), hl, Nat.sub_self]
        rfl
      have hf0 := ho.frozenAt (k * 2)
      have hst := (ho.stored (k * 2) (.int .i64 z)).1
      have hsg := (ho.stored (k * 2) (.int .i64 z)).2
      have hlt' : (k : Int) < (ws.length : Int) := by omega
      have hw1 := IntWalk.i64_in (z + 1) (by omega)
      obtain ⟨q, hq⟩ : ∃ q, q = ws[k].num := ⟨_, rfl⟩
      rw [← hq] at hc0
      have HL := Lib.hid hl
      have HSP := Lib.hid hsp
      have HSET := Lib.hid hset
      have HO := Lib.hid hst
      have HSG := Lib.hid hsg
      clear hx hl hsp hset hst hsg hq
      go_wp2_with (go_at_call 108; refine (hM _).mono ?_; rintro e w1 ⟨rfl, hb1⟩; refine Hid.out ?_)
      refine Lib.hid ?_
      have ho1 := own_bel HO.out hb1
      have g1 := grown_trans (grown_trans hb HSG.out) (below_grown hb1 _)
      clear ho hb hM hb1
      have hc1 : w1.cell? ⟨g, k * 2 + 1, none⟩ = some (.string ws[k].text) := by
        rw [ho1.cellAt (k * 2 + 1) (by omega), HSP.out, List.getElem?_set_ne (by omega), List.getElem?_append_right (by have := HL.out; omega), HL.out, show k * 2 + 1 - k * 2 = 1 by omega]
        rfl
      have hf1 := ho1.frozenAt (k * 2 + 1)
      have hst := (ho1.stored (k * 2 + 1) (.string x)).1
      have hsg := (ho1.stored (k * 2 + 1) (.string x)).2
      rw [HSET.out] at hst
      have G2 := grown_trans g1 hsg
      obtain ⟨q2, hq2⟩ : ∃ q, q = ws[k].text := ⟨_, rfl⟩
      rw [← hq2] at hc1
      have hw2 := IntWalk.i64_in (z + 1 + 1) (by omega)
      clear hq2 ho1 g1 hsg
      go_wp2_with fail
      go_roundg (ws.length - (k + 1))
      case measure => have := HG.out; omega
      case rel => exact ⟨k + 1, z + 1 + 1, rfl, by omega, by go_num, rfl, by have := HZ.out; omega, hst, G2⟩
    · have hke : k = ws.length := by omega
      subst hke
      rw [List.drop_length, List.append_nil] at ho
      have hr : Ending.returned (.int .i64 z) = .returned (.int .i64 ((a : Int) + 2 * ((ws.length : Nat) : Int))) := by rw [hz]
      have HR := Lib.hid hr
      clear hz hr
      go_wp2_with fail
      go_ret
      exact ⟨HR.out, ho, hb⟩

set_option maxRecDepth 100000 in
set_option maxHeartbeats 1000000 in
theorem held_waits (base : Nat) (A : Option Addr) (c n a : Nat) (w : World) (ha : 1 ≤ a) (hn : a + 2 * n ≤ 9999999) (ho : w.ownsRow base 94 2 (.slice A n c) n (wtCells (marksW a n))) :
    Calls Try.prog 82 #[.slice A n c, .int .i64 (a : Int)] w fun e w' => e = .returned (.int .i64 ((a : Int) + 2 * (n : Int))) ∧ Below w.heap.size w w' := by
  go_enter Try.func82, Try.ntmps82
  go_wp2
  go_loopg [1, 5] n (fun gh m i wr => ∃ (k : Nat) (z : Int), gh = n - k ∧ k ≤ n ∧ i = .int .i64 k ∧ m = .int .i64 z ∧ z = (a : Int) + 2 * (k : Int) ∧ Below w.heap.size w wr)
  case atStart => exact ⟨0, a, rfl, Nat.zero_le _, rfl, rfl, by simp, Below.refl _ _⟩
  case round =>
    obtain ⟨k, z, hg, hk, rfl, rfl, hz, hb⟩ := hrel
    have HG := Lib.hid hg
    clear hg
    by_cases hlt : k < n
    · obtain ⟨g, rfl⟩ := own_addr ho (by omega)
      have hM := fun w => mark_text (z + 1) w (by omega) (by omega)
      have hor := own_bel ho hb
      have hgl := (hor.lt g rfl).2
      have hck0 : wr.cell? ⟨g, k * 2, none⟩ = some (.int .i64 z) := by rw [hor.cellAt (k * 2) (by omega), (marksW_at a n k hlt).1, hz]; congr 2
      have hck : wr.cell? ⟨g, k * 2 + 1, none⟩ = some (.string (strOf (markL (a + 2 * k + 1)))) := by rw [hor.cellAt (k * 2 + 1) (by omega), (marksW_at a n k hlt).2]
      rw [show (z + 1).toNat = a + 2 * k + 1 by omega] at hM
      obtain ⟨x, hx⟩ : ∃ x, x = strOf (markL (a + 2 * k + 1)) := ⟨_, rfl⟩
      rw [← hx] at hM hck
      have hq : (!x.toList == x.toList) = false := by simp
      have hq2 : (z != z) = false := by simp
      have hlt' : (k : Int) < (n : Int) := by omega
      have hw1 := IntWalk.i64_in (z + 1) (by omega)
      have hw2 := IntWalk.i64_in (z + 1 + 1) (by omega)
      have HO := Lib.hid ho
      have HZ := Lib.hid hz
      clear hx hor ho hz
      go_upto_region 7 with fail
      go_cut [28] (fun s wx => s = .bool false ∧ Below w.heap.size w wx)
      case first =>
        go_region_with (go_at_call 108; refine (hM _).mono ?_; rintro e w1 ⟨rfl, hb1⟩; have hcw : w1.cell? ⟨g, k * 2 + 1, none⟩ = some (.string x) := (hb1.cell (p := ⟨g, k * 2 + 1, none⟩) (by simpa using hgl)).trans hck)
        all_goals clear hM
        all_goals go_wp2_with fail
        all_goals go_meet
        all_goals exact ⟨rfl, hb.drew.trans (hb1.mono hb.size)⟩
      case rest =>
        obtain ⟨rfl, hb2⟩ := hcut
        go_wp2_with fail
        go_roundg (n - (k + 1))
        case measure => have := HG.out; omega
        case rel => exact ⟨k + 1, z + 1 + 1, rfl, by omega, by go_num, rfl, by have := HZ.out; omega, hb2⟩
    · have hke : k = n := by omega
      subst hke
      have hr : Ending.returned (.int .i64 z) = .returned (.int .i64 ((a : Int) + 2 * ((k : Nat) : Int))) := by rw [hz]
      have HR := Lib.hid hr
      clear hz hr
      go_wp2_with fail
      go_ret
      exact ⟨HR.out, hb⟩
end Go.Proofs.Ytndckncoipkhaaa

namespace Go.Proofs.Ytndckncoipkhaaa
open Go.RowKit

/-- Of what was there, nothing has turned but blocks from lo on, below hi. -/
structure Only (lo hi : Nat) (a w : World) : Prop where
  os : w.os = a.os
  tape : w.tape = a.tape
  output : w.output = a.output
  size : a.heap.size ≤ w.heap.size
  block : ∀ k, k < a.heap.size → ¬ (lo ≤ k ∧ k < hi) → w.heap[k]? = a.heap[k]?
theorem Only.of_below {lo hi : Nat} {a w : World} (h : Below a.heap.size a w) : Only lo hi a w := ⟨h.os, h.tape, h.output, h.size, fun k hk _ => h.block k hk⟩
theorem Only.of_grown {lo hi : Nat} {a w : World} {r : Option Nat} (h : a.grownBy w r) (hr : ∀ k, r = some k → lo ≤ k ∧ k < hi) : Only lo hi a w :=
  ⟨h.os, h.tape, h.output, h.size, fun k hk hn => h.block k hk (fun e => hn (hr k e.symm))⟩
theorem Only.trans {lo hi : Nat} {a b c : World} (h : Only lo hi a b) (k : Only lo hi b c) : Only lo hi a c :=
  ⟨k.os.trans h.os, k.tape.trans h.tape, k.output.trans h.output, Nat.le_trans h.size k.size, fun i hi hn => (k.block i (Nat.lt_of_lt_of_le hi h.size) hn).trans (h.block i hi hn)⟩
theorem Only.below {lo hi B : Nat} {a w : World} (h : Only lo hi a w) (hB : B ≤ lo) (hs : B ≤ a.heap.size) : Below B a w :=
  ⟨h.os, h.tape, h.output, h.size, fun k hk => h.block k (Nat.lt_of_lt_of_le hk hs) (fun e => by omega)⟩

def DkIn (w : World) (base top : Nat) (v : Value) (d : Dk) : Prop :=
  ∃ (t : TypeId) (u1 u2 : Value), v = .agg #[u1, u2, .bool d.gone] ∧ (t = 9 ∨ t = 84) ∧ (w.ownsRow base t 1 u1 d.cells.length (strCells d.cells) ∧ ∀ k, u1.ownBlock = some k → k < top) ∧ (w.ownsRow base 94 2 u2 d.waits.length (wtCells d.waits) ∧ ∀ k, u2.ownBlock = some k → k < top)
theorem DkOwn.in_ {w : World} {base : Nat} {v : Value} {d : Dk} (h : DkOwn w base v d) : DkIn w base w.heap.size v d := by
  obtain ⟨t, u1, u2, e, ht, h1, h2⟩ := h
  exact ⟨t, u1, u2, e, ht, ⟨h1, fun k hk => (h1.lt k hk).2⟩, ⟨h2, fun k hk => (h2.lt k hk).2⟩⟩
theorem DkIn.own {w : World} {base top : Nat} {v : Value} {d : Dk} (h : DkIn w base top v d) : DkOwn w base v d := by
  obtain ⟨t, u1, u2, e, ht, h1, h2⟩ := h
  exact ⟨t, u1, u2, e, ht, h1.1, h2.1⟩
theorem DkIn.below {w w' : World} {base top : Nat} {v : Value} {d : Dk} (h : DkIn w base top v d) (hb : Below w.heap.size w w') : DkIn w' base top v d := by
  obtain ⟨t, u1, u2, e, ht, h1, h2⟩ := h
  exact ⟨t, u1, u2, e, ht, ⟨own_bel h1.1 hb, h1.2⟩, ⟨own_bel h2.1 hb, h2.2⟩⟩
theorem own_only {w w' : World} {lo hi base : Nat} {t : TypeId} {sz n : Nat} {v : Value} {xs : List Value} (h : w.ownsRow base t sz v n xs) (hg : Only lo hi w w') (hne : ∀ k, v.ownBlock = some k → ¬ (lo ≤ k ∧ k < hi)) : w'.ownsRow base t sz v n xs := by
  refine ⟨h.1, ?_⟩
  rcases h.2 with hn | ⟨g, cap, cur, rfl, hb, hgg, rest⟩
  · exact .inl hn
  · refine .inr ⟨g, cap, cur, rfl, hb, ?_, rest⟩
    rw [hg.block g (Array.getElem?_eq_some_iff.1 hgg).1 (hne g rfl)]
    exact hgg
theorem DkOwn.only {w w' : World} {lo hi base : Nat} {v : Value} {d : Dk} (h : DkOwn w base v d) (hg : Only lo hi w w') (hb : hi ≤ base) : DkOwn w' base v d := by
  obtain ⟨t, u1, u2, e, ht, h1, h2⟩ := h
  exact ⟨t, u1, u2, e, ht, own_only h1 hg (fun k hk => by have := (h1.lt k hk).1; omega), own_only h2 hg (fun k hk => by have := (h2.lt k hk).1; omega)⟩
theorem DkIn.only {w w' : World} {lo hi base top : Nat} {v : Value} {d : Dk} (h : DkIn w base top v d) (hg : Only lo hi w w') (hb : hi ≤ base ∨ top ≤ lo) : DkIn w' base top v d := by
  obtain ⟨t, u1, u2, e, ht, h1, h2⟩ := h
  exact ⟨t, u1, u2, e, ht, ⟨own_only h1.1 hg (fun k hk => by have := (h1.1.lt k hk).1; have := h1.2 k hk; omega), h1.2⟩, ⟨own_only h2.1 hg (fun k hk => by have := (h2.1.lt k hk).1; have := h2.2 k hk; omega), h2.2⟩⟩
theorem own_ne {w : World} {b1 b2 : Nat} {t1 t2 : TypeId} {s1 s2 n1 n2 : Nat} {v1 v2 : Value} {x1 x2 : List Value} (h1 : w.ownsRow b1 t1 s1 v1 n1 x1) (h2 : w.ownsRow b2 t2 s2 v2 n2 x2) (hne : t1 ≠ t2) : v2.ownBlock = none ∨ v2.ownBlock ≠ v1.ownBlock := by
  rcases h2.2 with ⟨rfl, _⟩ | ⟨g, cap, cur, rfl, hb, hgg, rest⟩
  · exact .inl rfl
  · refine .inr ?_
    rcases h1.2 with ⟨rfl, _⟩ | ⟨g', cap', cur', rfl, hb', hgg', rest'⟩
    · simp [Value.ownBlock]
    · intro e
      simp only [Value.ownBlock, Option.some.injEq] at e
      subst e
      rw [hgg] at hgg'
      injection hgg' with hgg'
      injection hgg' with _ ht
      exact hne ht.symm
def markD (d : Dk) : Dk := ⟨marks 1 d.cells.length, marksW (1 + d.cells.length) d.waits.length, d.gone⟩

def MarkPostD (base top : Nat) (v : Value) (d : Dk) (w : World) (e : Ending) (w' : World) : Prop :=
  e = .returned (.int .i64 (1 + (d.cells.length : Int) + 2 * (d.waits.length : Int))) ∧ DkIn w' base top v (markD d) ∧ Only base top w w'

end Go.Proofs.Ytndckncoipkhaaa
