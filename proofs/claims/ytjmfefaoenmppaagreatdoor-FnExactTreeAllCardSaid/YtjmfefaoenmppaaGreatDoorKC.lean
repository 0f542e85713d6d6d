/-
  Pointers in chapter 2's words: the plain facts of both ways of asking for a hole and for a valid one.
  The text of a pointer, number by number: both ways of writing it agree.
  The text of a pointer as the program writes it.
  PtrPut, both ways: they write the same text. The tables that strconv reads hold what the program's text lays.
  A text cut at each byte of a kind: the pieces, one by one; and that the library's cut into at most so many pieces finds the same where they are no more.
  Rows of strings of the call's own, and what reads them.
  The model's cut of a text at each byte of a kind: a row of its own that holds the pieces.
  What PtrGet answers, as a function of the text; and the box in which a pointer is handed back.
  PtrGet, the model's: what it answers at every text.
  readParts, the program's: the five numbers of a text, or that they are not five.
-/
import Derived.Test.YtjmfefaoenmppaaGreatDoorKA
import Derived.Test.YtjmfefaoenmppaaGreatDoorKB
import Derived.WalkKit
import Derived.WalkSpells
import Derived.Lib.Hide
import Derived.ProofKit
import Derived.OpenShut
import Derived.ShutString
import Derived.Laws.StructEq
import Derived.Deep.RegionHeld3
import Derived.Laws.Rows
import Derived.Lib.Split
import Derived.BigQuiet
import Derived.Deep.QuietTactic
import Derived.Laws.OwnMore
import Derived.OwnWalk
import Derived.Maps.AppendAt
import Derived.Stop.LaidErr
set_option linter.unusedVariables false

namespace Go.Proofs.YtjmfefaoenmppaaGreatDoor.Fx
open Go.RowKit

def inAll (a b c d e : Int) : Prop := (8 ≤ a ∧ a ≤ 63) ∧ (1 ≤ b ∧ b ≤ 900) ∧ (1 ≤ c ∧ c ≤ 128) ∧ (0 ≤ d ∧ d ≤ 99460728) ∧ (0 ≤ e ∧ e ≤ 2)
instance (a b c d e : Int) : Decidable (inAll a b c d e) := by unfold inAll; infer_instance
theorem isOk_inAll (a b c d e : Int) : isOk a b c d e = (isHole a b c d e || decide (inAll a b c d e)) := by
  unfold isOk
  congr 1
  rw [Bool.eq_iff_iff]
  simp only [Bool.and_eq_true, inB_iff, decide_eq_true_eq, inAll, and_assoc]
theorem spec_ok (a b c d e : Int) (w : World) : Calls Tryz.prog 71 #[.agg #[.int .i64 a, .int .i64 b, .int .i64 c, .int .i64 d, .int .i64 e]] w fun r w' => r = .returned (.bool (isOk a b c d e)) ∧ w' = (w.alloc (.cells #[.int .i64 a, .int .i64 b, .int .i64 c, .int .i64 d, .int .i64 e] 40)).alloc (.cells #[.int .i64 a, .int .i64 b, .int .i64 c, .int .i64 d, .int .i64 e] 40) := spec_pok a b c d e w
theorem in_yes (n lo hi : Int) (w : World) (h : lo ≤ n ∧ n ≤ hi) : Calls Tryz.prog 54 #[.int .i64 n, .int .i64 lo, .int .i64 hi] w fun e w' => e = .returned (.bool true) ∧ w = w' := by
  obtain ⟨h1, h2⟩ := h
  go_enter Tryz.func54, Tryz.ntmps54
  go_wp2
  go_ret
  exact ⟨rfl, rfl⟩
theorem in_no (n lo hi : Int) (w : World) (h : ¬ (lo ≤ n ∧ n ≤ hi)) : Calls Tryz.prog 54 #[.int .i64 n, .int .i64 lo, .int .i64 hi] w fun e w' => e = .returned (.bool false) ∧ w = w' := by
  by_cases h1 : lo ≤ n
  · have h2 : ¬ n ≤ hi := fun e => h ⟨h1, e⟩
    clear h
    go_enter Tryz.func54, Tryz.ntmps54
    go_wp2
    go_ret
    exact ⟨rfl, rfl⟩
  · clear h
    go_enter Tryz.func54, Tryz.ntmps54
    go_wp2
    go_ret
    exact ⟨rfl, rfl⟩

theorem bel_then {a w w' : World} (h : Below a.heap.size a w) (k : Below w.heap.size w w') : Below a.heap.size a w' := h.trans (k.mono h.size)
theorem bel_new {a w : World} (h : Below a.heap.size a w) (o : Obj) : Below a.heap.size a (w.alloc o) := h.alloc h.size o

theorem im_yes (n lo hi : Int) (w : World) (h : lo ≤ n ∧ n ≤ hi) : Calls Tryz.prog 56 #[.int .i64 n, .int .i64 lo, .int .i64 hi] w fun e w' => e = .returned (.bool true) ∧ w = w' := by
  obtain ⟨h1, h2⟩ := h
  go_enter Tryz.func56, Tryz.ntmps56
  go_wp2
  go_ret
  exact ⟨rfl, rfl⟩
theorem im_no (n lo hi : Int) (w : World) (h : ¬ (lo ≤ n ∧ n ≤ hi)) : Calls Tryz.prog 56 #[.int .i64 n, .int .i64 lo, .int .i64 hi] w fun e w' => e = .returned (.bool false) ∧ w = w' := by
  by_cases h1 : lo ≤ n
  · have h2 : ¬ n ≤ hi := fun e => h ⟨h1, e⟩
    clear h
    go_enter Tryz.func56, Tryz.ntmps56
    go_wp2
    go_ret
    exact ⟨rfl, rfl⟩
  · clear h
    go_enter Tryz.func56, Tryz.ntmps56
    go_wp2
    go_ret
    exact ⟨rfl, rfl⟩
theorem row_yes (n : Int) (w : World) (h : 8 ≤ n ∧ n ≤ 63) : Calls Tryz.prog 91 #[.int .i64 n] w fun e w' => e = .returned (.bool true) ∧ w = w' := by
  go_enter Tryz.func91, Tryz.ntmps91
  go_wp2_with (go_at_call 54; refine (in_yes _ _ _ _ h).mono ?_; rintro e w' ⟨rfl, rfl⟩)
  go_ret
  exact ⟨rfl, rfl⟩
theorem row_no (n : Int) (w : World) (h : ¬ (8 ≤ n ∧ n ≤ 63)) : Calls Tryz.prog 91 #[.int .i64 n] w fun e w' => e = .returned (.bool false) ∧ w = w' := by
  go_enter Tryz.func91, Tryz.ntmps91
  go_wp2_with (go_at_call 54; refine (in_no _ _ _ _ h).mono ?_; rintro e w' ⟨rfl, rfl⟩)
  go_ret
  exact ⟨rfl, rfl⟩

theorem box_cell {w w' : World} {vs : Array Value} {t : TypeId} (hb : Below (w.alloc (.cells vs t)).heap.size (w.alloc (.cells vs t)) w') (k : Nat) (v : Value) (h : vs[k]? = some v) : w'.cell? ⟨w.heap.size, k, none⟩ = some v := by
  rw [hb.cell (by simp), World.cell?_alloc_mark]
  exact h
end Go.Proofs.YtjmfefaoenmppaaGreatDoor.Fx

namespace Go.Proofs.YtjmfefaoenmppaaGreatDoor.Fx
open Go.RowKit

def joinB (p q r s t : List UInt8) : List UInt8 := p ++ [46] ++ q ++ [46] ++ r ++ [46] ++ s ++ [46] ++ t

def HP (w : World) (a b c d e : Int) (W : World) : Prop :=
  W.cell? ⟨w.heap.size, 0, none⟩ = some (.int .i64 a) ∧ W.cell? ⟨w.heap.size, 1, none⟩ = some (.int .i64 b) ∧ W.cell? ⟨w.heap.size, 2, none⟩ = some (.int .i64 c) ∧ W.cell? ⟨w.heap.size, 3, none⟩ = some (.int .i64 d) ∧ W.cell? ⟨w.heap.size, 4, none⟩ = some (.int .i64 e) ∧ w.heap.size < W.heap.size ∧ Below w.heap.size w W
theorem HP.next {w W W' : World} {a b c d e : Int} (h : HP w a b c d e W) (hb : Below W.heap.size W W') : HP w a b c d e W' := by
  obtain ⟨h0, h1, h2, h3, h4, hl, hw⟩ := h
  exact ⟨(hb.cell hl).trans h0, (hb.cell hl).trans h1, (hb.cell hl).trans h2, (hb.cell hl).trans h3, (hb.cell hl).trans h4, Nat.lt_of_lt_of_le hl hb.size, hw.trans (hb.mono hw.size)⟩
theorem HP.drew {w W : World} {a b c d e : Int} (h : HP w a b c d e W) : HP w a b c d e W.drew := ⟨h.1, h.2.1, h.2.2.1, h.2.2.2.1, h.2.2.2.2.1, h.2.2.2.2.2.1, h.2.2.2.2.2.2.drew⟩

theorem HP.new (w : World) (a b c d e : Int) (t : TypeId) : HP w a b c d e (w.alloc (.cells #[.int .i64 a, .int .i64 b, .int .i64 c, .int .i64 d, .int .i64 e] t)) :=
  ⟨by rw [World.cell?_alloc_mark]; rfl, by rw [World.cell?_alloc_mark]; rfl, by rw [World.cell?_alloc_mark]; rfl, by rw [World.cell?_alloc_mark]; rfl, by rw [World.cell?_alloc_mark]; rfl, by simp, bel_new (Below.refl _ _) _⟩

set_option maxHeartbeats 2000000 in
theorem spec_text (a b c d e : Int) (w : World) (h : inAll a b c d e) (hh : isHole a b c d e = false) :
    Calls Tryz.prog 139 #[.agg #[.int .i64 a, .int .i64 b, .int .i64 c, .int .i64 d, .int .i64 e]] w fun r w' => r = .returned (.string (strOf (joinB (Lib.decDigits a.toNat) (Lib.decDigits b.toNat) (Lib.decDigits c.toNat) (Lib.decDigits d.toNat) (Lib.decDigits e.toNat)))) ∧ Below w.heap.size w w' := by
  have hk : isOk a b c d e = true := by rw [isOk_inAll]; rw [hh]; simpa using h
  have hO : ∀ w, Calls Tryz.prog 71 #[.agg #[.int .i64 a, .int .i64 b, .int .i64 c, .int .i64 d, .int .i64 e]] w fun r w' => r = .returned (.bool true) ∧ Below w.heap.size w w' := fun w => (spec_ok a b c d e w).mono fun r w' ⟨h1, h2⟩ => ⟨by rw [h1, hk], by rw [h2]; exact bel_new (bel_new (Below.refl _ _) _) _⟩
  have hM : ∀ w, Calls Tryz.prog 72 #[.agg #[.int .i64 a, .int .i64 b, .int .i64 c, .int .i64 d, .int .i64 e]] w fun r w' => r = .returned (.bool false) ∧ Below w.heap.size w w' := fun w => (spec_hole a b c d e w).mono fun r w' ⟨h1, h2⟩ => ⟨by rw [h1, hh], by rw [h2]; exact bel_new (Below.refl _ _) _⟩
  obtain ⟨h1, h2, h3, h4, h5⟩ := h
  have hD := fun (x : Int) (h0 : 0 ≤ x) (h9 : x ≤ 99460728) (W : World) => dec_any x.toNat x W h0 (by omega) (by omega)
  have hL := fun (x : Int) (h0 : 0 ≤ x) (h9 : x ≤ 99460728) => (dec_good x.toNat (by omega)).2.1
  have hA := hD a (by omega) (by omega)
  have hB := hD b (by omega) (by omega)
  have hC := hD c (by omega) (by omega)
  have hDD := hD d (by omega) (by omega)
  have hE := hD e (by omega) (by omega)
  have la := hL a (by omega) (by omega)
  have lb := hL b (by omega) (by omega)
  have lc := hL c (by omega) (by omega)
  have ld := hL d (by omega) (by omega)
  have le := hL e (by omega) (by omega)
  unfold joinB
  obtain ⟨da, hda⟩ : ∃ x, x = Lib.decDigits a.toNat := ⟨_, rfl⟩
  obtain ⟨db, hdb⟩ : ∃ x, x = Lib.decDigits b.toNat := ⟨_, rfl⟩
  obtain ⟨dc, hdc⟩ : ∃ x, x = Lib.decDigits c.toNat := ⟨_, rfl⟩
  obtain ⟨dd, hdd⟩ : ∃ x, x = Lib.decDigits d.toNat := ⟨_, rfl⟩
  obtain ⟨de, hde⟩ : ∃ x, x = Lib.decDigits e.toNat := ⟨_, rfl⟩
  rw [← hda] at hA la
  rw [← hdb] at hB lb
  rw [← hdc] at hC lc
  rw [← hdd] at hDD ld
  rw [← hde] at hE le
  rw [← hda, ← hdb, ← hdc, ← hdd, ← hde]
  clear hda hdb hdc hdd hde hL
  obtain ⟨o1, ho1⟩ : ∃ o, o = da ++ [46] := ⟨_, rfl⟩
  obtain ⟨p1, hp1⟩ : ∃ p, p = o1 ++ db := ⟨_, rfl⟩
  have lo1 : o1.length ≤ 10 := by rw [ho1, List.length_append, List.length_singleton]; omega
  have lp1 : p1.length ≤ 19 := by rw [hp1, List.length_append]; omega
  have ao1 : ∀ w, (Op.stringOp .add (strOf da) ⟨#[46]⟩).run Tryz.prog w = .ok (.string (strOf o1)) w := by
    intro w
    rw [ho1]
    exact add_strs Tryz.prog da [46] (by simp; omega) w
  have ap1 := add_strs Tryz.prog o1 db (by omega)
  rw [← hp1] at ap1
  obtain ⟨o2, ho2⟩ : ∃ o, o = p1 ++ [46] := ⟨_, rfl⟩
  obtain ⟨p2, hp2⟩ : ∃ p, p = o2 ++ dc := ⟨_, rfl⟩
  have lo2 : o2.length ≤ 20 := by rw [ho2, List.length_append, List.length_singleton]; omega
  have lp2 : p2.length ≤ 29 := by rw [hp2, List.length_append]; omega
  have ao2 : ∀ w, (Op.stringOp .add (strOf p1) ⟨#[46]⟩).run Tryz.prog w = .ok (.string (strOf o2)) w := by
    intro w
    rw [ho2]
    exact add_strs Tryz.prog p1 [46] (by simp; omega) w
  have ap2 := add_strs Tryz.prog o2 dc (by omega)
  rw [← hp2] at ap2
  obtain ⟨o3, ho3⟩ : ∃ o, o = p2 ++ [46] := ⟨_, rfl⟩
  obtain ⟨p3, hp3⟩ : ∃ p, p = o3 ++ dd := ⟨_, rfl⟩
  have lo3 : o3.length ≤ 30 := by rw [ho3, List.length_append, List.length_singleton]; omega
  have lp3 : p3.length ≤ 39 := by rw [hp3, List.length_append]; omega
  have ao3 : ∀ w, (Op.stringOp .add (strOf p2) ⟨#[46]⟩).run Tryz.prog w = .ok (.string (strOf o3)) w := by
    intro w
    rw [ho3]
    exact add_strs Tryz.prog p2 [46] (by simp; omega) w
  have ap3 := add_strs Tryz.prog o3 dd (by omega)
  rw [← hp3] at ap3
  obtain ⟨o4, ho4⟩ : ∃ o, o = p3 ++ [46] := ⟨_, rfl⟩
  obtain ⟨p4, hp4⟩ : ∃ p, p = o4 ++ de := ⟨_, rfl⟩
  have lo4 : o4.length ≤ 40 := by rw [ho4, List.length_append, List.length_singleton]; omega
  have lp4 : p4.length ≤ 49 := by rw [hp4, List.length_append]; omega
  have ao4 : ∀ w, (Op.stringOp .add (strOf p3) ⟨#[46]⟩).run Tryz.prog w = .ok (.string (strOf o4)) w := by
    intro w
    rw [ho4]
    exact add_strs Tryz.prog p3 [46] (by simp; omega) w
  have ap4 := add_strs Tryz.prog o4 de (by omega)
  rw [← hp4] at ap4
  rw [← ho1, ← hp1, ← ho2, ← hp2, ← ho3, ← hp3, ← ho4, ← hp4]
  clear hD hk hh h1 h2 h3 h4 h5 ho1 hp1 ho2 hp2 ho3 hp3 ho4 hp4 lo1 lp1 lo2 lp2 lo3 lp3 lo4 lp4 la lb lc ld le
  go_enter Tryz.func139, Tryz.ntmps139
  go_wp2_with (go_at_call 71; refine (hO _).mono ?_; rintro r w1 ⟨rfl, hb1⟩; refine Hid.out ?_)
  refine Lib.hid ?_
  have H1 := (HP.new w a b c d e 40).next hb1
  obtain ⟨q0, q1, q2, q3, q4, ql, qb⟩ := id H1
  clear hb1 hO
  go_wp2_with (go_at_call 72; refine (hM _).mono ?_; rintro r w2 ⟨rfl, hb2⟩; refine Hid.out ?_)
  refine Lib.hid ?_
  have H2 := H1.next hb2
  clear hb2 hM H1 q0 q1 q2 q3 q4 ql qb
  go_wp2_with fail
  go_region_held3 (fun W => W.cell? ⟨w.heap.size, 0, none⟩ = some (.int .i64 a) ∧ W.cell? ⟨w.heap.size, 1, none⟩ = some (.int .i64 b) ∧ W.cell? ⟨w.heap.size, 2, none⟩ = some (.int .i64 c) ∧ W.cell? ⟨w.heap.size, 3, none⟩ = some (.int .i64 d) ∧ W.cell? ⟨w.heap.size, 4, none⟩ = some (.int .i64 e) ∧ w.heap.size < W.heap.size ∧ Below w.heap.size w W)
    (first | exact HP.drew H2 | exact HP.next (by assumption) hb)
    (first | (go_at_call_of 153 (Value.int .i64 a); refine (hA _).mono ?_; rintro r w' ⟨rfl, hb⟩) | (go_at_call_of 153 (Value.int .i64 b); refine (hB _).mono ?_; rintro r w' ⟨rfl, hb⟩) | (go_at_call_of 153 (Value.int .i64 c); refine (hC _).mono ?_; rintro r w' ⟨rfl, hb⟩) | (go_at_call_of 153 (Value.int .i64 d); refine (hDD _).mono ?_; rintro r w' ⟨rfl, hb⟩) | (go_at_call_of 153 (Value.int .i64 e); refine (hE _).mono ?_; rintro r w' ⟨rfl, hb⟩))
  rename_i hH
  have hbb := hH.2.2.2.2.2.2
  clear hH ao1 ap1 ao2 ap2 ao3 ap3 ao4 ap4 hA hB hC hDD hE
  go_wp2_with fail
  go_ret
  exact ⟨rfl, hbb⟩

end Go.Proofs.YtjmfefaoenmppaaGreatDoor.Fx

namespace Go.Proofs.YtjmfefaoenmppaaGreatDoor.Fx
open Go.RowKit

theorem HP.more {w W : World} {a b c d e : Int} (h : HP w a b c d e W) (o : Obj) : HP w a b c d e (W.alloc o) := h.next (bel_new (Below.refl _ _) _)

theorem HP.lt {w W : World} {a b c d e : Int} (h : HP w a b c d e W) : w.heap.size < W.heap.size := h.2.2.2.2.2.1
theorem HP.bel {w W : World} {a b c d e : Int} (h : HP w a b c d e W) : Below w.heap.size w W := h.2.2.2.2.2.2
def Arr (b g : Nat) (W : World) : Prop := b < g ∧ W.heap[g]? = some (.cells #[.string ⟨#[]⟩, .string ⟨#[]⟩, .string ⟨#[]⟩, .string ⟨#[]⟩, .string ⟨#[]⟩] 178 (0, 0))
theorem Arr.lt {b g : Nat} {W : World} (h : Arr b g W) : g < W.heap.size := (Array.getElem?_eq_some_iff.1 h.2).1
theorem Arr.new {b : Nat} {W w' : World} (hb : Below (W.alloc (.cells #[.string ⟨#[]⟩, .string ⟨#[]⟩, .string ⟨#[]⟩, .string ⟨#[]⟩, .string ⟨#[]⟩] 178)).heap.size (W.alloc (.cells #[.string ⟨#[]⟩, .string ⟨#[]⟩, .string ⟨#[]⟩, .string ⟨#[]⟩, .string ⟨#[]⟩] 178)) w') (h : b < W.heap.size) : Arr b W.heap.size w' :=
  ⟨h, (hb.block _ (by simp)).trans (heap_alloc_new W _)⟩
theorem Arr.next {b g : Nat} {W W' : World} (h : Arr b g W) (hb : Below W.heap.size W W') : Arr b g W' := ⟨h.1, (hb.block g h.lt).trans h.2⟩
theorem Arr.cell {b g : Nat} {W : World} (h : Arr b g W) (k : Nat) (hk : k < 5) : W.cell? ⟨g, k, none⟩ = some (.string ⟨#[]⟩) := by
  have h2 := h.2
  rcases (show k = 0 ∨ k = 1 ∨ k = 2 ∨ k = 3 ∨ k = 4 by omega) with rfl | rfl | rfl | rfl | rfl <;> simp [World.cell?, h2]
theorem Arr.free {b g : Nat} {W : World} (h : Arr b g W) (k : Nat) : W.frozen? ⟨g, k, none⟩ = false := by
  have h2 := h.2
  simp [World.frozen?, h2]
theorem HP.set {w W : World} {a b c d e : Int} (h : HP w a b c d e W) {g : Nat} (hg : w.heap.size < g) (k : Nat) (v : Value) : HP w a b c d e (W.setCell ⟨g, k, none⟩ v) := by
  obtain ⟨h0, h1, h2, h3, h4, hl, hw⟩ := h
  have hx : ∀ j, (W.setCell ⟨g, k, none⟩ v).cell? ⟨w.heap.size, j, none⟩ = W.cell? ⟨w.heap.size, j, none⟩ := fun j => by
    rw [World.cell?_setCell_other]
    intro he
    have := congrArg Addr.block he
    simp only at this
    omega
  exact ⟨(hx 0).trans h0, (hx 1).trans h1, (hx 2).trans h2, (hx 3).trans h3, (hx 4).trans h4, by simpa [World.setCell] using hl, hw.setCell (Nat.le_of_lt hg) v⟩

theorem num_short (a : Int) : (numText a).length ≤ 9 := by
  unfold numText
  split
  · exact (dec_good _ (by omega)).2.1
  · simp

theorem join_five (x y z u v : List UInt8) : Lib.join [x, y, z, u, v] [46] = joinB x y z u v := by
  simp [Lib.join, List.intercalate, List.intersperse, joinB]

theorem join5 (g : Nat) (x y z u v : List UInt8) (W : World) (hx : x.length ≤ 9) (hy : y.length ≤ 9) (hz : z.length ≤ 9) (hu : u.length ≤ 9) (hv : v.length ≤ 9) (hg : g < W.heap.size)
    (h0 : W.cell? ⟨g, 0, none⟩ = some (.string (strOf x))) (h1 : W.cell? ⟨g, 1, none⟩ = some (.string (strOf y))) (h2 : W.cell? ⟨g, 2, none⟩ = some (.string (strOf z))) (h3 : W.cell? ⟨g, 3, none⟩ = some (.string (strOf u))) (h4 : W.cell? ⟨g, 4, none⟩ = some (.string (strOf v))) :
    Calls Tryz.prog 156 #[.slice (some ⟨g, 0, none⟩) 5 5, .string ⟨#[46]⟩] W fun e w' => e = .returned (.string (strOf (joinB x y z u v))) ∧ Below W.heap.size W w' := by
  have hm : ([strOf x, strOf y, strOf z, strOf u, strOf v].map (·.data.toList)) = [x, y, z, u, v] := by simp [strOf_toList]
  have hj : Lib.join ([strOf x, strOf y, strOf z, strOf u, strOf v].map (·.data.toList)) (⟨#[46]⟩ : ByteArray).data.toList = joinB x y z u v := by
    rw [hm]
    exact join_five x y z u v
  have h := Tryz.strings_Join g 0 5 [strOf x, strOf y, strOf z, strOf u, strOf v] ⟨#[46]⟩ W (fun j s hs => by
    match j, hs with
    | 0, hs => cases hs; exact h0
    | 1, hs => cases hs; exact h1
    | 2, hs => cases hs; exact h2
    | 3, hs => cases hs; exact h3
    | 4, hs => cases hs; exact h4
    | j + 5, hs => simp at hs) hg (by simp) (by simp) (by rw [hj]; simp [joinB]; omega)
  rw [hj] at h
  exact h

theorem join5s {b g : Nat} {W : World} (Z : Arr b g W) (x y z u v : List UInt8) (hx : x.length ≤ 9) (hy : y.length ≤ 9) (hz : z.length ≤ 9) (hu : u.length ≤ 9) (hv : v.length ≤ 9) :
    Calls Tryz.prog 156 #[.slice (some ⟨g, 0, none⟩) 5 5, .string ⟨#[46]⟩] (((((W.setCell ⟨g, 0, none⟩ (.string (strOf x))).setCell ⟨g, 1, none⟩ (.string (strOf y))).setCell ⟨g, 2, none⟩ (.string (strOf z))).setCell ⟨g, 3, none⟩ (.string (strOf u))).setCell ⟨g, 4, none⟩ (.string (strOf v)))
      fun e w' => e = .returned (.string (strOf (joinB x y z u v))) ∧ Below (((((W.setCell ⟨g, 0, none⟩ (.string (strOf x))).setCell ⟨g, 1, none⟩ (.string (strOf y))).setCell ⟨g, 2, none⟩ (.string (strOf z))).setCell ⟨g, 3, none⟩ (.string (strOf u))).setCell ⟨g, 4, none⟩ (.string (strOf v))).heap.size (((((W.setCell ⟨g, 0, none⟩ (.string (strOf x))).setCell ⟨g, 1, none⟩ (.string (strOf y))).setCell ⟨g, 2, none⟩ (.string (strOf z))).setCell ⟨g, 3, none⟩ (.string (strOf u))).setCell ⟨g, 4, none⟩ (.string (strOf v))) w' := by
  have z0 := Z.cell 0 (by decide)
  have z1 := Z.cell 1 (by decide)
  have z2 := Z.cell 2 (by decide)
  have z3 := Z.cell 3 (by decide)
  have z4 := Z.cell 4 (by decide)
  have e01 : ∀ i j : Nat, i ≠ j → (⟨g, i, none⟩ : Addr) ≠ ⟨g, j, none⟩ := fun i j h e => h (congrArg Addr.off e)
  refine join5 g x y z u v _ hx hy hz hu hv (by simpa [World.setCell] using Z.lt) ?_ ?_ ?_ ?_ ?_
  · rw [World.cell?_setCell_other (h := e01 4 0 (by decide)), World.cell?_setCell_other (h := e01 3 0 (by decide)), World.cell?_setCell_other (h := e01 2 0 (by decide)), World.cell?_setCell_other (h := e01 1 0 (by decide)), World.cell?_setCell_same (h := z0)]
  · rw [World.cell?_setCell_other (h := e01 4 1 (by decide)), World.cell?_setCell_other (h := e01 3 1 (by decide)), World.cell?_setCell_other (h := e01 2 1 (by decide)), World.cell?_setCell_same (u := .string ⟨#[]⟩)]
    rw [World.cell?_setCell_other (h := e01 0 1 (by decide)), z1]
  · rw [World.cell?_setCell_other (h := e01 4 2 (by decide)), World.cell?_setCell_other (h := e01 3 2 (by decide)), World.cell?_setCell_same (u := .string ⟨#[]⟩)]
    rw [World.cell?_setCell_other (h := e01 1 2 (by decide)), World.cell?_setCell_other (h := e01 0 2 (by decide)), z2]
  · rw [World.cell?_setCell_other (h := e01 4 3 (by decide)), World.cell?_setCell_same (u := .string ⟨#[]⟩)]
    rw [World.cell?_setCell_other (h := e01 2 3 (by decide)), World.cell?_setCell_other (h := e01 1 3 (by decide)), World.cell?_setCell_other (h := e01 0 3 (by decide)), z3]
  · rw [World.cell?_setCell_same (u := .string ⟨#[]⟩)]
    rw [World.cell?_setCell_other (h := e01 3 4 (by decide)), World.cell?_setCell_other (h := e01 2 4 (by decide)), World.cell?_setCell_other (h := e01 1 4 (by decide)), World.cell?_setCell_other (h := e01 0 4 (by decide)), z4]

set_option maxHeartbeats 500000 in
theorem m_text (a b c d e : Int) (w : World) (h : inAll a b c d e) (hh : isHole a b c d e = false) (hT : Lib.TabBelow Tryz.prog w.heap.size w "internal/strconv.uint64pow10" .u64 Lib.pow10Tab) :
    Calls Tryz.prog 155 #[.agg #[.int .i64 a, .int .i64 b, .int .i64 c, .int .i64 d, .int .i64 e]] w fun r w' => r = .returned (.string (strOf (joinB (numText a) (numText b) (numText c) (numText d) (numText e)))) ∧ Below w.heap.size w w' := by
  have hM : ∀ w, Calls Tryz.prog 68 #[.agg #[.int .i64 a, .int .i64 b, .int .i64 c, .int .i64 d, .int .i64 e]] w fun r w' => r = .returned (.bool false) ∧ Below w.heap.size w w' := fun w => (m_hole a b c d e w).mono fun r w' ⟨h1, h2⟩ => ⟨by rw [h1, hh], by rw [h2]; exact bel_new (Below.refl _ _) _⟩
  have hN := fun (x : Int) (W : World) (hb : Below w.heap.size w W) => impl_num x W (hT.on hb).here
  have hA := hN a
  have hB := hN b
  have hC := hN c
  have hDD := hN d
  have hE := hN e
  have la := num_short a
  have lb := num_short b
  have lc := num_short c
  have ld := num_short d
  have le := num_short e
  obtain ⟨da, hda⟩ : ∃ x, x = numText a := ⟨_, rfl⟩
  obtain ⟨db, hdb⟩ : ∃ x, x = numText b := ⟨_, rfl⟩
  obtain ⟨dc, hdc⟩ : ∃ x, x = numText c := ⟨_, rfl⟩
  obtain ⟨dd, hdd⟩ : ∃ x, x = numText d := ⟨_, rfl⟩
  obtain ⟨de, hde⟩ : ∃ x, x = numText e := ⟨_, rfl⟩
  rw [← hda] at hA la
  rw [← hdb] at hB lb
  rw [← hdc] at hC lc
  rw [← hdd] at hDD ld
  rw [← hde] at hE le
  rw [← hda, ← hdb, ← hdc, ← hdd, ← hde]
  clear hN hda hdb hdc hdd hde h hh hT
  go_enter Tryz.func155, Tryz.ntmps155
  go_wp2_with (go_at_call 68; refine (hM _).mono ?_; rintro r w2 ⟨rfl, hb2⟩; refine Hid.out ?_)
  refine Lib.hid ?_
  have H2 := (HP.new w a b c d e 40).next hb2
  have H3 := H2.drew
  clear hb2 hM
  go_wp2_with fail
  go_region_held3 (fun W => W.cell? ⟨w.heap.size, 0, none⟩ = some (.int .i64 a) ∧ W.cell? ⟨w.heap.size, 1, none⟩ = some (.int .i64 b) ∧ W.cell? ⟨w.heap.size, 2, none⟩ = some (.int .i64 c) ∧ W.cell? ⟨w.heap.size, 3, none⟩ = some (.int .i64 d) ∧ W.cell? ⟨w.heap.size, 4, none⟩ = some (.int .i64 e) ∧ w.heap.size < W.heap.size ∧ Below w.heap.size w W)
    ((show HP w a b c d e _; with_reducible (first | exact H3 | exact HP.drew (HP.more H2 _) | exact HP.next hp hb | exact HP.next (HP.drew (HP.more H2 _)) hb | exact HP.next (HP.more hp _) hb | exact HP.next H3 hb | exact HP.next (HP.more H3 _) hb | exact hp | exact HP.more hp _ | exact HP.more H3 _ | exact HP.set (HP.set (HP.set (HP.set (HP.set hp zl _ _) zl _ _) zl _ _) zl _ _) zl _ _)))
    (first | (go_at_call_of 163 (Value.int .i64 a); refine (hA _ ?_).mono ?_; (exact HP.bel (by assumption)); rintro r w' ⟨rfl, hb⟩; have hp := HP.next (w := w) (a := a) (b := b) (c := c) (d := d) (e := e) (by assumption) hb; (first | (have Z := Arr.new hb (HP.lt (by assumption)); have z0 := Z.cell 0 (by decide); have z1 := Z.cell 1 (by decide); have z2 := Z.cell 2 (by decide); have z3 := Z.cell 3 (by decide); have z4 := Z.cell 4 (by decide); have f0 := Z.free 0; have f1 := Z.free 1; have f2 := Z.free 2; have f3 := Z.free 3; have f4 := Z.free 4; have zl := Z.1; have zm := Z.lt) | (have Z := Arr.new (((Below.refl _ _).drew).trans hb) (HP.lt H2); have z0 := Z.cell 0 (by decide); have z1 := Z.cell 1 (by decide); have z2 := Z.cell 2 (by decide); have z3 := Z.cell 3 (by decide); have z4 := Z.cell 4 (by decide); have f0 := Z.free 0; have f1 := Z.free 1; have f2 := Z.free 2; have f3 := Z.free 3; have f4 := Z.free 4; have zl := Z.1; have zm := Z.lt) | (have Z := Arr.next (by assumption) hb; have z0 := Z.cell 0 (by decide); have z1 := Z.cell 1 (by decide); have z2 := Z.cell 2 (by decide); have z3 := Z.cell 3 (by decide); have z4 := Z.cell 4 (by decide); have f0 := Z.free 0; have f1 := Z.free 1; have f2 := Z.free 2; have f3 := Z.free 3; have f4 := Z.free 4; have zl := Z.1; have zm := Z.lt) | skip)) | (go_at_call_of 163 (Value.int .i64 b); refine (hB _ ?_).mono ?_; (exact HP.bel (by assumption)); rintro r w' ⟨rfl, hb⟩; have hp := HP.next (w := w) (a := a) (b := b) (c := c) (d := d) (e := e) (by assumption) hb; (first | (have Z := Arr.new hb (HP.lt (by assumption)); have z0 := Z.cell 0 (by decide); have z1 := Z.cell 1 (by decide); have z2 := Z.cell 2 (by decide); have z3 := Z.cell 3 (by decide); have z4 := Z.cell 4 (by decide); have f0 := Z.free 0; have f1 := Z.free 1; have f2 := Z.free 2; have f3 := Z.free 3; have f4 := Z.free 4; have zl := Z.1; have zm := Z.lt) | (have Z := Arr.new (((Below.refl _ _).drew).trans hb) (HP.lt H2); have z0 := Z.cell 0 (by decide); have z1 := Z.cell 1 (by decide); have z2 := Z.cell 2 (by decide); have z3 := Z.cell 3 (by decide); have z4 := Z.cell 4 (by decide); have f0 := Z.free 0; have f1 := Z.free 1; have f2 := Z.free 2; have f3 := Z.free 3; have f4 := Z.free 4; have zl := Z.1; have zm := Z.lt) | (have Z := Arr.next (by assumption) hb; have z0 := Z.cell 0 (by decide); have z1 := Z.cell 1 (by decide); have z2 := Z.cell 2 (by decide); have z3 := Z.cell 3 (by decide); have z4 := Z.cell 4 (by decide); have f0 := Z.free 0; have f1 := Z.free 1; have f2 := Z.free 2; have f3 := Z.free 3; have f4 := Z.free 4; have zl := Z.1; have zm := Z.lt) | skip)) | (go_at_call_of 163 (Value.int .i64 c); refine (hC _ ?_).mono ?_; (exact HP.bel (by assumption)); rintro r w' ⟨rfl, hb⟩; have hp := HP.next (w := w) (a := a) (b := b) (c := c) (d := d) (e := e) (by assumption) hb; (first | (have Z := Arr.new hb (HP.lt (by assumption)); have z0 := Z.cell 0 (by decide); have z1 := Z.cell 1 (by decide); have z2 := Z.cell 2 (by decide); have z3 := Z.cell 3 (by decide); have z4 := Z.cell 4 (by decide); have f0 := Z.free 0; have f1 := Z.free 1; have f2 := Z.free 2; have f3 := Z.free 3; have f4 := Z.free 4; have zl := Z.1; have zm := Z.lt) | (have Z := Arr.new (((Below.refl _ _).drew).trans hb) (HP.lt H2); have z0 := Z.cell 0 (by decide); have z1 := Z.cell 1 (by decide); have z2 := Z.cell 2 (by decide); have z3 := Z.cell 3 (by decide); have z4 := Z.cell 4 (by decide); have f0 := Z.free 0; have f1 := Z.free 1; have f2 := Z.free 2; have f3 := Z.free 3; have f4 := Z.free 4; have zl := Z.1; have zm := Z.lt) | (have Z := Arr.next (by assumption) hb; have z0 := Z.cell 0 (by decide); have z1 := Z.cell 1 (by decide); have z2 := Z.cell 2 (by decide); have z3 := Z.cell 3 (by decide); have z4 := Z.cell 4 (by decide); have f0 := Z.free 0; have f1 := Z.free 1; have f2 := Z.free 2; have f3 := Z.free 3; have f4 := Z.free 4; have zl := Z.1; have zm := Z.lt) | skip)) | (go_at_call_of 163 (Value.int .i64 d); refine (hDD _ ?_).mono ?_; (exact HP.bel (by assumption)); rintro r w' ⟨rfl, hb⟩; have hp := HP.next (w := w) (a := a) (b := b) (c := c) (d := d) (e := e) (by assumption) hb; (first | (have Z := Arr.new hb (HP.lt (by assumption)); have z0 := Z.cell 0 (by decide); have z1 := Z.cell 1 (by decide); have z2 := Z.cell 2 (by decide); have z3 := Z.cell 3 (by decide); have z4 := Z.cell 4 (by decide); have f0 := Z.free 0; have f1 := Z.free 1; have f2 := Z.free 2; have f3 := Z.free 3; have f4 := Z.free 4; have zl := Z.1; have zm := Z.lt) | (have Z := Arr.new (((Below.refl _ _).drew).trans hb) (HP.lt H2); have z0 := Z.cell 0 (by decide); have z1 := Z.cell 1 (by decide); have z2 := Z.cell 2 (by decide); have z3 := Z.cell 3 (by decide); have z4 := Z.cell 4 (by decide); have f0 := Z.free 0; have f1 := Z.free 1; have f2 := Z.free 2; have f3 := Z.free 3; have f4 := Z.free 4; have zl := Z.1; have zm := Z.lt) | (have Z := Arr.next (by assumption) hb; have z0 := Z.cell 0 (by decide); have z1 := Z.cell 1 (by decide); have z2 := Z.cell 2 (by decide); have z3 := Z.cell 3 (by decide); have z4 := Z.cell 4 (by decide); have f0 := Z.free 0; have f1 := Z.free 1; have f2 := Z.free 2; have f3 := Z.free 3; have f4 := Z.free 4; have zl := Z.1; have zm := Z.lt) | skip)) | (go_at_call_of 163 (Value.int .i64 e); refine (hE _ ?_).mono ?_; (exact HP.bel (by assumption)); rintro r w' ⟨rfl, hb⟩; have hp := HP.next (w := w) (a := a) (b := b) (c := c) (d := d) (e := e) (by assumption) hb; (first | (have Z := Arr.new hb (HP.lt (by assumption)); have z0 := Z.cell 0 (by decide); have z1 := Z.cell 1 (by decide); have z2 := Z.cell 2 (by decide); have z3 := Z.cell 3 (by decide); have z4 := Z.cell 4 (by decide); have f0 := Z.free 0; have f1 := Z.free 1; have f2 := Z.free 2; have f3 := Z.free 3; have f4 := Z.free 4; have zl := Z.1; have zm := Z.lt) | (have Z := Arr.new (((Below.refl _ _).drew).trans hb) (HP.lt H2); have z0 := Z.cell 0 (by decide); have z1 := Z.cell 1 (by decide); have z2 := Z.cell 2 (by decide); have z3 := Z.cell 3 (by decide); have z4 := Z.cell 4 (by decide); have f0 := Z.free 0; have f1 := Z.free 1; have f2 := Z.free 2; have f3 := Z.free 3; have f4 := Z.free 4; have zl := Z.1; have zm := Z.lt) | (have Z := Arr.next (by assumption) hb; have z0 := Z.cell 0 (by decide); have z1 := Z.cell 1 (by decide); have z2 := Z.cell 2 (by decide); have z3 := Z.cell 3 (by decide); have z4 := Z.cell 4 (by decide); have f0 := Z.free 0; have f1 := Z.free 1; have f2 := Z.free 2; have f3 := Z.free 3; have f4 := Z.free 4; have zl := Z.1; have zm := Z.lt) | skip)))
  all_goals clear hA hB hC hDD hE
  all_goals rename_i hH
  all_goals first
    | have cJ := join5s Z da db dc dd de la lb lc ld le
    | (rename World => W0; have cJ := join5 W0.heap.size da db dc dd de (W0.alloc (.cells #[.string (strOf da), .string (strOf db), .string (strOf dc), .string (strOf dd), .string (strOf de)] 178)) la lb lc ld le (by simp) (by rw [World.cell?_alloc_mark]; rfl) (by rw [World.cell?_alloc_mark]; rfl) (by rw [World.cell?_alloc_mark]; rfl) (by rw [World.cell?_alloc_mark]; rfl) (by rw [World.cell?_alloc_mark]; rfl))
  all_goals have hbb := HP.bel (w := w) (a := a) (b := b) (c := c) (d := d) (e := e) hH
  all_goals clear hH
  all_goals go_wp2_with (go_at_call 156; refine cJ.mono ?_; rintro r w9 ⟨rfl, hb9⟩)
  all_goals go_ret
  all_goals exact ⟨rfl, bel_then hbb hb9⟩

end Go.Proofs.YtjmfefaoenmppaaGreatDoor.Fx

namespace Go.Proofs.YtjmfefaoenmppaaGreatDoor.Fx
open Go.RowKit

def Tab (w : World) : Prop := Lib.TabBelow Tryz.prog w.heap.size w "internal/strconv.uint64pow10" .u64 Lib.pow10Tab
theorem Tab.at {W w : World} (h : Tab W) (hb : Below W.heap.size W w) : Tab w := fun w' hw => (h.on hb) w' (hw.mono hb.size)
def putT (a b c d e : Int) : List UInt8 := if isOk a b c d e = true then (if isHole a b c d e = true then [45] else joinB (numText a) (numText b) (numText c) (numText d) (numText e)) else []
theorem num_is (x : Int) (h : 0 ≤ x) (h2 : x ≤ 99460728) : numText x = Lib.decDigits x.toNat := by
  unfold numText
  rw [if_pos ⟨h, by omega⟩]

set_option maxHeartbeats 1000000 in
theorem spec_put (a b c d e : Int) (w : World) : Calls Tryz.prog 139 #[.agg #[.int .i64 a, .int .i64 b, .int .i64 c, .int .i64 d, .int .i64 e]] w fun r w' => r = .returned (.string (strOf (putT a b c d e))) ∧ Below w.heap.size w w' := by
  have hO := fun w => spec_ok a b c d e w
  by_cases hk : isOk a b c d e = true
  · by_cases hh : isHole a b c d e = true
    · have hp : putT a b c d e = [45] := by unfold putT; rw [if_pos hk, if_pos hh]
      have hM := fun w => spec_hole a b c d e w
      rw [hh] at hM
      rw [hk] at hO
      rw [hp]
      clear hh hk hp
      go_enter Tryz.func139, Tryz.ntmps139
      go_wp2_with (first | (go_at_call 71; refine (hO _).mono ?_; rintro r w' ⟨rfl, rfl⟩) | (go_at_call 72; refine (hM _).mono ?_; rintro r w' ⟨rfl, rfl⟩))
      go_ret
      exact ⟨rfl, (by repeat' (first | exact Below.refl _ _ | refine bel_new ?_ _ | refine Below.drew ?_))⟩
    · have hi : inAll a b c d e := by rw [isOk_inAll] at hk; simpa [hh] using hk
      have hp : putT a b c d e = joinB (Lib.decDigits a.toNat) (Lib.decDigits b.toNat) (Lib.decDigits c.toNat) (Lib.decDigits d.toNat) (Lib.decDigits e.toNat) := by
        unfold putT
        obtain ⟨h1, h2, h3, h4, h5⟩ := hi
        rw [if_pos hk, if_neg hh, num_is a (by omega) (by omega), num_is b (by omega) (by omega), num_is c (by omega) (by omega), num_is d (by omega) (by omega), num_is e (by omega) (by omega)]
      rw [hp]
      exact spec_text a b c d e w hi (by simpa using hh)
  · have hk' : isOk a b c d e = false := by simpa using hk
    have hp : putT a b c d e = [] := by unfold putT; rw [if_neg hk]
    rw [hk'] at hO
    rw [hp]
    clear hk hk' hp
    go_enter Tryz.func139, Tryz.ntmps139
    go_wp2_with (go_at_call 71; refine (hO _).mono ?_; rintro r w' ⟨rfl, rfl⟩)
    go_ret
    exact ⟨rfl, (by repeat' (first | exact Below.refl _ _ | refine bel_new ?_ _ | refine Below.drew ?_))⟩

end Go.Proofs.YtjmfefaoenmppaaGreatDoor.Fx

namespace Go.Proofs.YtjmfefaoenmppaaGreatDoor.Fx
open Go.RowKit

def cutA (c : UInt8) (cur : List UInt8) : List UInt8 → List (List UInt8)
  | [] => [cur]
  | x :: l => if x = c then cur :: cutA c [] l else cutA c (cur ++ [x]) l
def cuts (c : UInt8) (l : List UInt8) : List (List UInt8) := cutA c [] l

theorem cutA_hit (c : UInt8) (cur l : List UInt8) : cutA c cur (c :: l) = cur :: cutA c [] l := if_pos rfl
theorem cutA_miss {c x : UInt8} (cur l : List UInt8) (h : x ≠ c) : cutA c cur (x :: l) = cutA c (cur ++ [x]) l := if_neg h
theorem cutA_none (c : UInt8) : ∀ (l cur : List UInt8), (∀ x ∈ l, x ≠ c) → cutA c cur l = [cur ++ l]
  | [], cur, _ => by rw [List.append_nil]; rfl
  | x :: l, cur, h => by
    rw [cutA_miss cur l (h x (by simp)), cutA_none c l _ (fun y hy => h y (by simp [hy])), List.append_assoc]
    rfl
theorem cutA_at (c : UInt8) : ∀ (b cur r : List UInt8), (∀ x ∈ b, x ≠ c) → cutA c cur (b ++ c :: r) = (cur ++ b) :: cutA c [] r
  | [], cur, r, _ => by rw [List.nil_append, cutA_hit, List.append_nil]
  | x :: b, cur, r, h => by
    rw [List.cons_append, cutA_miss cur _ (h x (by simp)), cutA_at c b _ r (fun y hy => h y (by simp [hy])), List.append_assoc]
    rfl
theorem cutA_len (c : UInt8) : ∀ (l cur : List UInt8), (cutA c cur l).length ≤ l.length + 1 ∧ 1 ≤ (cutA c cur l).length
  | [], cur => ⟨Nat.le_refl _, Nat.le_refl _⟩
  | x :: l, cur => by
    unfold cutA
    split
    · have := cutA_len c l []
      simp only [List.length_cons]
      omega
    · have := cutA_len c l (cur ++ [x])
      simp only [List.length_cons]
      omega
/-- No piece is longer than the text. -/
theorem cutA_short (c : UInt8) : ∀ (l cur p : List UInt8), p ∈ cutA c cur l → p.length ≤ cur.length + l.length
  | [], cur, p, h => by
    rw [List.mem_singleton.1 h]
    simp
  | x :: l, cur, p, h => by
    unfold cutA at h
    split at h
    · rcases List.mem_cons.1 h with rfl | h
      · omega
      · have := cutA_short c l [] p h
        simp only [List.length_cons, List.length_nil] at this ⊢
        omega
    · have := cutA_short c l (cur ++ [x]) p h
      simp only [List.length_append, List.length_cons, List.length_nil] at this ⊢
      omega

theorem idxc (c : UInt8) : ∀ l : List UInt8, (Lib.index l [c] = -1 ∧ ∀ x ∈ l, x ≠ c) ∨ ∃ i : Nat, Lib.index l [c] = i ∧ l = l.take i ++ c :: l.drop (i + 1) ∧ ∀ x ∈ l.take i, x ≠ c
  | [] => .inl ⟨rfl, by simp⟩
  | b :: l => by
    by_cases hb : b = c
    · subst hb
      right
      exact ⟨0, by simp [Lib.index], by simp, by simp⟩
    · have hp : ([c] : List UInt8).isPrefixOf (b :: l) = false := by
        simp only [List.isPrefixOf, Bool.and_true]
        exact beq_eq_false_iff_ne.2 fun e => hb e.symm
      rcases idxc c l with ⟨h1, h2⟩ | ⟨i, h1, h2, h3⟩
      · left
        refine ⟨by simp [Lib.index, hp, h1], ?_⟩
        intro x hx
        rcases List.mem_cons.1 hx with rfl | hx
        · exact hb
        · exact h2 x hx
      · right
        refine ⟨i + 1, ?_, ?_, ?_⟩
        · have : ¬ (i : Int) = -1 := by omega
          simp [Lib.index, hp, h1, this]
        · rw [List.take_succ_cons, List.drop_succ_cons, List.cons_append, ← h2]
        · intro x hx
          rw [List.take_succ_cons] at hx
          rcases List.mem_cons.1 hx with rfl | hx
          · exact hb
          · exact h3 x hx

/-- Where the pieces are no more than are asked for, they are those; else there are as many as are asked for. -/
theorem splitK_cuts (c : UInt8) : ∀ (k : Nat) (l : List UInt8),
    ((cuts c l).length ≤ k + 1 → Lib.splitK [c] 0 k l = cuts c l) ∧ (k + 1 < (cuts c l).length → (Lib.splitK [c] 0 k l).length = k + 1)
  | 0, l => by
    refine ⟨fun h => ?_, fun _ => rfl⟩
    rcases idxc c l with ⟨_, h2⟩ | ⟨i, h1, h2, h3⟩
    · unfold cuts
      rw [cutA_none c l [] h2]
      rfl
    · exfalso
      unfold cuts at h
      rw [h2, cutA_at c _ _ _ h3, List.length_cons] at h
      have := (cutA_len c (l.drop (i + 1)) []).2
      omega
  | k + 1, l => by
    rcases idxc c l with ⟨h1, h2⟩ | ⟨i, h1, h2, h3⟩
    · have hc : cuts c l = [l] := by
        unfold cuts
        rw [cutA_none c l [] h2]
        rfl
      have hs : Lib.splitK [c] 0 (k + 1) l = [l] := by
        unfold Lib.splitK
        rw [h1]
        rfl
      rw [hc, hs]
      exact ⟨fun _ => rfl, fun h => by simp at h⟩
    · have hc : cuts c l = l.take i :: cuts c (l.drop (i + 1)) := by
        have e : cuts c l = cutA c [] (l.take i ++ c :: l.drop (i + 1)) := by
          rw [← h2]
          rfl
        rw [e, cutA_at c _ _ _ h3]
        rfl
      have hs : Lib.splitK [c] 0 (k + 1) l = l.take i :: Lib.splitK [c] 0 k (l.drop (i + 1)) := by
        have hne : ((i : Int) == -1) = false := by rw [beq_eq_false_iff_ne]; omega
        rw [Lib.splitK, h1, hne]
        rfl
      have ih := splitK_cuts c k (l.drop (i + 1))
      rw [hc, hs, List.length_cons, List.length_cons]
      exact ⟨fun h => by rw [ih.1 (by omega)], fun h => by rw [ih.2 (by omega)]⟩

/-- The pieces as texts. -/
def cutsB (c : UInt8) (s : ByteArray) : List ByteArray := (cuts c s.data.toList).map strOf
theorem cutsB_len (c : UInt8) (s : ByteArray) : (cutsB c s).length = (cuts c s.data.toList).length := List.length_map ..
theorem split_as (l : List ByteArray) : l = (l.map (·.data.toList)).map strOf := by
  rw [List.map_map]
  conv => lhs; rw [← List.map_id l]
  rfl
theorem splitB_cuts (c : UInt8) (k : Nat) (s : ByteArray) (h : (cutsB c s).length ≤ k + 1) : Lib.splitB ⟨#[c]⟩ 0 k s = cutsB c s := by
  rw [split_as (Lib.splitB _ _ _ _), Lib.splitB_data, show (⟨#[c]⟩ : ByteArray).data.toList = [c] from rfl, (splitK_cuts c k s.data.toList).1 (by rw [← cutsB_len]; exact h)]
  rfl
theorem splitB_many (c : UInt8) (k : Nat) (s : ByteArray) (h : k + 1 < (cutsB c s).length) : (Lib.splitB ⟨#[c]⟩ 0 k s).length = k + 1 := by
  have e := congrArg List.length (Lib.splitB_data ⟨#[c]⟩ 0 k s)
  rw [List.length_map, show (⟨#[c]⟩ : ByteArray).data.toList = [c] from rfl, (splitK_cuts c k s.data.toList).2 (by rw [← cutsB_len]; exact h)] at e
  exact e
/-- Asked for one more than n pieces, the library answers n of them just where there are n. -/
theorem split_one (c : UInt8) (n : Nat) (s : ByteArray) (hn : 1 ≤ n) :
    ((cutsB c s).length = n ∧ Lib.splitB ⟨#[c]⟩ 0 (min (n + 1) (s.size + 1) - 1) s = cutsB c s) ∨ ((cutsB c s).length ≠ n ∧ (Lib.splitB ⟨#[c]⟩ 0 (min (n + 1) (s.size + 1) - 1) s).length ≠ n) := by
  have hl := (cutA_len c s.data.toList []).1
  have hlen : s.data.toList.length = s.size := by simp
  have hb : (cutsB c s).length ≤ s.size + 1 := by
    rw [cutsB_len, ← hlen]
    exact hl
  by_cases hx : (cutsB c s).length ≤ min (n + 1) (s.size + 1) - 1 + 1
  · have h := splitB_cuts c (min (n + 1) (s.size + 1) - 1) s hx
    by_cases hy : (cutsB c s).length = n
    · exact .inl ⟨hy, h⟩
    · exact .inr ⟨hy, by rw [h]; exact hy⟩
  · have h := splitB_many c (min (n + 1) (s.size + 1) - 1) s (by omega)
    have hm : min (n + 1) (s.size + 1) - 1 + 1 = n + 1 := by omega
    exact .inr ⟨by omega, by rw [h, hm]; omega⟩
theorem cutsB_short (c : UInt8) (s p : ByteArray) (h : p ∈ cutsB c s) : p.size ≤ s.size := by
  obtain ⟨l, hl, rfl⟩ := List.mem_map.1 h
  have := cutA_short c s.data.toList [] l hl
  rw [strOf_size]
  simpa using this

end Go.Proofs.YtjmfefaoenmppaaGreatDoor.Fx

namespace Go.Proofs.YtjmfefaoenmppaaGreatDoor.Fx
open Go.ChangeShapes Go.WideShapes Go.ChangeAt Go.RowKit

theorem Tryz.info9 : (Tryz.prog.info? 9).map (fun i => (i.zero, i.size, i.bytes)) = some (some (.string ⟨#[]⟩), 1, 16) := by kernel_rfl
def strCellsOf (ss : List ByteArray) : List Value := ss.map Value.string

/-- The slice address A leads to the strings ss. -/
def StrsAt (w : World) (A : Option Addr) (ss : List ByteArray) : Prop :=
  0 < ss.length → ∃ b off, A = some ⟨b, off, none⟩ ∧ b < w.heap.size ∧ ∀ (j : Nat) (h : j < ss.length), w.cell? ⟨b, off + j, none⟩ = some (.string (ss[j]))
theorem StrsAt.below {w w' : World} {A : Option Addr} {ss : List ByteArray} (h : StrsAt w A ss) (hb : Below w.heap.size w w') : StrsAt w' A ss := by
  intro h0
  obtain ⟨b, off, rfl, hlt, hc⟩ := h h0
  exact ⟨b, off, rfl, Nat.lt_of_lt_of_le hlt hb.size, fun j hj => (hb.cell (p := ⟨b, off + j, none⟩) hlt).trans (hc j hj)⟩
theorem StrsAt.of_own {w : World} {base g n c : Nat} {ss : List ByteArray} (h : w.ownsRow base 9 1 (.slice (some ⟨g, 0, none⟩) n c) ss.length (strCellsOf ss)) (hn : n = ss.length) : StrsAt w (some ⟨g, 0, none⟩) ss := by
  intro h0
  have hlt := (h.lt g rfl).2
  refine ⟨g, 0, rfl, hlt, fun j hj => ?_⟩
  subst hn
  rw [Nat.zero_add, h.cellAt j (by omega)]
  simp [strCellsOf, hj]

theorem own_str {w : World} {base : Nat} {v : Value} {ss : List ByteArray} {s : ByteArray} (h : w.ownsRow base 9 1 v (ss.length + 1) (strCellsOf ss ++ [.string s])) : w.ownsRow base 9 1 v (ss ++ [s]).length (strCellsOf (ss ++ [s])) := by
  rw [List.length_append, List.length_singleton, show strCellsOf (ss ++ [s]) = strCellsOf ss ++ [.string s] by simp [strCellsOf]]
  exact h
theorem own_formt {w : World} {t : TypeId} {base n : Nat} {v : Value} {xs : List Value} (h : w.ownsRow base t 1 v n xs) (hn : 0 < n) : ∃ g cap, v = .slice (some ⟨g, 0, none⟩) n cap := by
  rcases h.2 with ⟨_, h0⟩ | ⟨g, cap, _, rfl, _⟩
  · omega
  · exact ⟨g, cap, rfl⟩
theorem own_below {w w' : World} {t : TypeId} {base n : Nat} {v : Value} {xs : List Value} (h : w.ownsRow base t 1 v n xs) (hb : Below w.heap.size w w') : w'.ownsRow base t 1 v n xs := by
  refine h.kept (row := none) ⟨hb.os, hb.tape, hb.output, hb.size, fun k hk _ => hb.block k hk⟩ ?_
  cases v.ownBlock with
  | none => exact .inl rfl
  | some k => exact .inr (by simp)
theorem own_other {w w' : World} {t : TypeId} {base n : Nat} {v : Value} {xs : List Value} {k : Nat} (h : w.ownsRow base t 1 v n xs) (hg : w.grownBy w' (some k)) (hne : v.ownBlock ≠ some k) : w'.ownsRow base t 1 v n xs := h.kept hg (.inr hne)
theorem bel_row {a w w' : World} {t : TypeId} {base n : Nat} {v : Value} {xs : List Value} (h : Below a.heap.size a w) (ho : w.ownsRow base t 1 v n xs) (hb : a.heap.size ≤ base) (hg : w.grownBy w' v.ownBlock) : Below a.heap.size a w' :=
  h.grown hg h.size (fun k e => Nat.le_trans hb (ho.lt k e).1)
theorem bel_fresh {o : Obj} (w : World) : Below w.heap.size w (w.alloc o) := (Below.refl _ _).alloc (Nat.le_refl _) o

theorem ext_of (s : ByteArray) (f i : Nat) : s.extract f i = strOf ((s.data.toList.drop f).take (i - f)) := by
  apply bytes_inj
  rw [← ByteArray.toList_eq, Lib.extract_toList, strOf_toList]

end Go.Proofs.YtjmfefaoenmppaaGreatDoor.Fx

namespace Go.Proofs.YtjmfefaoenmppaaGreatDoor.Fx
open Go.RowKit

theorem cut_hit {s : ByteArray} {c : UInt8} {ss : List ByteArray} {f i : Nat} (h : cutsB c s = ss ++ (cutA c ((s.data.toList.drop f).take (i - f)) (s.data.toList.drop i)).map strOf) (hi : i < s.size) (hc : s[i] = c) :
    cutsB c s = (ss ++ [s.extract f i]) ++ (cutA c ((s.data.toList.drop (i + 1)).take (i + 1 - (i + 1))) (s.data.toList.drop (i + 1))).map strOf := by
  rw [h, drop_at s i hi, hc, cutA_hit, List.map_cons, ← ext_of, Nat.sub_self, List.take_zero, List.append_assoc]
  rfl
theorem cut_miss {s : ByteArray} {c : UInt8} {ss : List ByteArray} {f i : Nat} (h : cutsB c s = ss ++ (cutA c ((s.data.toList.drop f).take (i - f)) (s.data.toList.drop i)).map strOf) (hf : f ≤ i) (hi : i < s.size) (hc : s[i] ≠ c) :
    cutsB c s = ss ++ (cutA c ((s.data.toList.drop f).take (i + 1 - f)) (s.data.toList.drop (i + 1))).map strOf := by
  have e : (s.data.toList.drop f).take (i + 1 - f) = (s.data.toList.drop f).take (i - f) ++ [s[i]] := by
    rw [show i + 1 - f = (i - f) + 1 by omega, List.take_add_one, List.getElem?_drop, show f + (i - f) = i by omega, List.getElem?_eq_getElem (by simpa using hi)]
    rfl
  rw [h, drop_at s i hi, cutA_miss _ _ hc, e]
theorem cut_end {s : ByteArray} {c : UInt8} {ss : List ByteArray} {f : Nat} (h : cutsB c s = ss ++ (cutA c ((s.data.toList.drop f).take (s.size - f)) (s.data.toList.drop s.size)).map strOf) : cutsB c s = ss ++ [s.extract f s.size] := by
  rw [h, show s.data.toList.drop s.size = [] from List.drop_of_length_le (by simp), ext_of]
  rfl

set_option maxRecDepth 100000 in
set_option maxHeartbeats 1000000 in
theorem spec_cut (s : ByteArray) (c : UInt8) (w : World) (hs : s.size ≤ 1048576) :
    Calls Tryz.prog 120 #[.string s, .int .u8 (c.toNat : Int)] w fun e w' => ∃ g cap, e = .returned (.slice (some ⟨g, 0, none⟩) (cutsB c s).length cap) ∧ w'.ownsRow w.heap.size 9 1 (.slice (some ⟨g, 0, none⟩) (cutsB c s).length cap) (cutsB c s).length (strCellsOf (cutsB c s)) ∧ Below w.heap.size w w' := by
  obtain ⟨i0, hi, hz0, hz1, hz2⟩ := info_parts Tryz.info9
  have o1 := World.ownsRow_made (e := 9) (base := w.heap.size) w (size := 1) #[] 0 (Nat.le_refl _) (by decide) rfl
  go_enter Tryz.func120, Tryz.ntmps120
  go_wp2
  go_loopg [5, 6, 7] s.size (fun gh b f i wr => ∃ (ss : List ByteArray) (F I g cp : Nat), gh = s.size - I ∧ i = .int .i64 I ∧ f = .int .i64 F ∧ b = .slice (some ⟨g, 0, none⟩) ss.length cp ∧ F ≤ I ∧ I ≤ s.size ∧ ss.length ≤ I ∧ cutsB c s = ss ++ (cutA c ((s.data.toList.drop F).take (I - F)) (s.data.toList.drop I)).map strOf ∧ wr.ownsRow w.heap.size 9 1 (.slice (some ⟨g, 0, none⟩) ss.length cp) ss.length (strCellsOf ss) ∧ Below w.heap.size w wr)
  case atStart => exact ⟨[], 0, 0, w.heap.size, 0, by omega, rfl, rfl, rfl, by omega, by omega, by simp, rfl, o1, bel_fresh w⟩
  case round =>
    clear o1
    obtain ⟨ss, F, I, g, cp, hg, rfl, rfl, rfl, hFI, hIs, hsI, hcut, ho, hb⟩ := hrel
    have HG := Lib.hid hg
    clear hg
    have s1 := hb.size
    by_cases hlt : I < s.size
    · have hlt' : (I : Int) < (s.size : Int) := by omega
      by_cases hc : s[I] = c
      · have H2 := Lib.hid (cut_hit hcut hlt hc)
        have hq : ((s[I].toNat : Int) == (c.toNat : Int)) = true := by rw [hc]; simp
        obtain ⟨p, hp⟩ : ∃ p, p = s.extract F I := ⟨_, rfl⟩
        rw [← hp] at H2
        have hp2 := hp.symm
        clear hcut hc hp
        go_wp2_with (at_builtin; refine wpList_append_own_at _ rfl _ _ 22 rfl w.heap.size 9 i0 (.string ⟨#[]⟩) 1 16 Tryz.underlying22 hi hz0 hz1 hz2 rfl (by decide) _ _ _ rfl (ho.alloc _) ⟨wr.heap.size, 0, none⟩ 1 1 [.string p] rfl rfl (cell_one_new _ _ _) (by simp [Value.oneCell']) (by unfold maxLen; omega) (by omega) (by simp; omega) ?_)
        intro v' w4 hown' hgrow _ hat
        have R := own_str hown'
        have B4 : Below w.heap.size w w4 := bel_row (hb.alloc hb.size _) (ho.alloc _) (Nat.le_refl _) hgrow
        obtain ⟨g4, c4, rfl⟩ := own_formt R (by simp)
        clear hown' hgrow hat ho hb
        go_wp2
        go_roundg (s.size - (I + 1))
        case measure => have := HG.out; omega
        case rel => exact ⟨ss ++ [p], I + 1, I + 1, g4, c4, rfl, by go_num, by go_num, rfl, by omega, by omega, by simp; omega, H2.out, R, B4⟩
      · have H2 := Lib.hid (cut_miss hcut hFI hlt hc)
        have hq : ((s[I].toNat : Int) == (c.toNat : Int)) = false := by
          rw [beq_eq_false_iff_ne]
          intro h
          exact hc (UInt8.toNat_inj.1 (by omega))
        clear hcut hc
        go_wp2_with fail
        go_roundg (s.size - (I + 1))
        case measure => have := HG.out; omega
        case rel => exact ⟨ss, F, I + 1, g, cp, rfl, by go_num, rfl, rfl, by omega, by omega, by omega, H2.out, ho, hb⟩
    · obtain rfl : I = s.size := by omega
      have H2 := Lib.hid (cut_end hcut)
      obtain ⟨p, hp⟩ : ∃ p, p = s.extract F s.size := ⟨_, rfl⟩
      rw [← hp] at H2
      have hp2 := hp.symm
      clear hcut hp
      go_wp2_with (at_builtin; refine wpList_append_own_at _ rfl _ _ 22 rfl w.heap.size 9 i0 (.string ⟨#[]⟩) 1 16 Tryz.underlying22 hi hz0 hz1 hz2 rfl (by decide) _ _ _ rfl (ho.alloc _) ⟨wr.heap.size, 0, none⟩ 1 1 [.string p] rfl rfl (cell_one_new _ _ _) (by simp [Value.oneCell']) (by unfold maxLen; omega) (by omega) (by simp; omega) ?_)
      intro v' w4 hown' hgrow _ hat
      have R := own_str hown'
      have B4 : Below w.heap.size w w4 := bel_row (hb.alloc hb.size _) (ho.alloc _) (Nat.le_refl _) hgrow
      obtain ⟨g4, c4, rfl⟩ := own_formt R (by simp)
      clear hown' hgrow hat ho hb
      go_wp2
      go_ret
      rw [H2.out]
      exact ⟨g4, c4, by simp, R, B4⟩

end Go.Proofs.YtjmfefaoenmppaaGreatDoor.Fx

namespace Go.Proofs.YtjmfefaoenmppaaGreatDoor.Fx
open Go.RowKit

def _root_.Go.Proofs.YtjmfefaoenmppaaGreatDoor.P5.val (p : P5) : Value := .agg #[.int .i64 p.a, .int .i64 p.b, .int .i64 p.c, .int .i64 p.d, .int .i64 p.e]
def isNum (s : ByteArray) : Bool := (numG s.data.toList).2
def numV (s : ByteArray) : Int := (numG s.data.toList).1
/-- The five numbers of a text. -/
def five (ps : List ByteArray) : P5 := ⟨numV (ps.getD 0 ⟨#[]⟩), numV (ps.getD 1 ⟨#[]⟩), numV (ps.getD 2 ⟨#[]⟩), numV (ps.getD 3 ⟨#[]⟩), numV (ps.getD 4 ⟨#[]⟩)⟩
def parts (s : ByteArray) : P5 × Bool := if (cutsB 46 s).length = 5 ∧ ∀ p ∈ cutsB 46 s, isNum p = true then (five (cutsB 46 s), true) else (.zero, false)
def ptrG (s : ByteArray) : P5 × Bool :=
  if s = ⟨#[45]⟩ then (.zero, true)
  else if (parts s).2 = true ∧ (parts s).1.ok = true ∧ (parts s).1.hole = false then ((parts s).1, true) else (.zero, false)

theorem parts_no {s : ByteArray} (h : ¬ ((cutsB 46 s).length = 5 ∧ ∀ p ∈ cutsB 46 s, isNum p = true)) : parts s = (.zero, false) := if_neg h
theorem parts_yes {s : ByteArray} (h : (cutsB 46 s).length = 5) (h2 : ∀ p ∈ cutsB 46 s, isNum p = true) : parts s = (five (cutsB 46 s), true) := if_pos ⟨h, h2⟩
theorem ptrG_hole : ptrG ⟨#[45]⟩ = (.zero, true) := if_pos rfl
theorem ptrG_no {s : ByteArray} (h : s ≠ ⟨#[45]⟩) (h2 : (parts s).2 = false) : ptrG s = (.zero, false) := by
  unfold ptrG
  rw [if_neg h, if_neg (by rw [h2]; simp)]
theorem ptrG_bad {s : ByteArray} (h : s ≠ ⟨#[45]⟩) (h2 : (parts s).1.ok = false) : ptrG s = (.zero, false) := by
  unfold ptrG
  rw [if_neg h, if_neg (by rw [h2]; simp)]
theorem ptrG_zero {s : ByteArray} (h : s ≠ ⟨#[45]⟩) (h2 : (parts s).1.hole = true) : ptrG s = (.zero, false) := by
  unfold ptrG
  rw [if_neg h, if_neg (by rw [h2]; simp)]
theorem ptrG_yes {s : ByteArray} (h : s ≠ ⟨#[45]⟩) (h1 : (parts s).2 = true) (h2 : (parts s).1.ok = true) (h3 : (parts s).1.hole = false) : ptrG s = ((parts s).1, true) := by
  unfold ptrG
  rw [if_neg h, if_pos ⟨h1, h2, h3⟩]

theorem str_is {s t : ByteArray} (h : s = t) : (s.toList == t.toList) = true := by rw [h]; simp
theorem str_isnt {s t : ByteArray} (h : s ≠ t) : (s.toList == t.toList) = false := by
  rw [beq_eq_false_iff_ne, ByteArray.toList_eq, ByteArray.toList_eq]
  exact fun e => h (bytes_inj e)

/-- The box of a result: five zeros. -/
def RBox (g : Nat) (W : World) : Prop := W.heap[g]? = some (.cells #[.int .i64 0, .int .i64 0, .int .i64 0, .int .i64 0, .int .i64 0] 40 (0, 0))
theorem RBox.lt {g : Nat} {W : World} (h : RBox g W) : g < W.heap.size := (Array.getElem?_eq_some_iff.1 h).1
theorem RBox.new {W w' : World} (hb : Below (W.alloc (.cells #[.int .i64 0, .int .i64 0, .int .i64 0, .int .i64 0, .int .i64 0] 40)).heap.size (W.alloc (.cells #[.int .i64 0, .int .i64 0, .int .i64 0, .int .i64 0, .int .i64 0] 40)) w') : RBox W.heap.size w' :=
  (hb.block _ (by simp)).trans (heap_alloc_new W _)
theorem RBox.next {g : Nat} {W W' : World} (h : RBox g W) (hb : Below W.heap.size W W') : RBox g W' := (hb.block g h.lt).trans h
theorem RBox.cell {g : Nat} {W : World} (h : RBox g W) (k : Nat) (hk : k < 5) : W.cell? ⟨g, k, none⟩ = some (.int .i64 0) := by
  have h2 := h
  unfold RBox at h2
  rcases (show k = 0 ∨ k = 1 ∨ k = 2 ∨ k = 3 ∨ k = 4 by omega) with rfl | rfl | rfl | rfl | rfl <;> simp [World.cell?, h2]
theorem RBox.free {g : Nat} {W : World} (h : RBox g W) (k : Nat) : W.frozen? ⟨g, k, none⟩ = false := by
  have h2 := h
  unfold RBox at h2
  simp [World.frozen?, h2]

theorem Tryz.info3 : (Tryz.prog.info? 3).map (fun i => (i.zero, i.size, i.bytes)) = some (some (.int .i64 0), 1, 8) := by kernel_rfl
def intCells (ps : List ByteArray) : List Value := ps.map fun p => .int .i64 (numV p)
theorem own_int {w : World} {base : Nat} {v : Value} {ps : List ByteArray} {p : ByteArray} (h : w.ownsRow base 3 1 v (ps.length + 1) (intCells ps ++ [.int .i64 (numV p)])) : w.ownsRow base 3 1 v (ps ++ [p]).length (intCells (ps ++ [p])) := by
  rw [List.length_append, List.length_singleton, show intCells (ps ++ [p]) = intCells ps ++ [.int .i64 (numV p)] by simp [intCells]]
  exact h
theorem take_more (ps : List ByteArray) (j : Nat) (h : j < ps.length) : ps.take (j + 1) = ps.take j ++ [ps[j]] := by
  rw [List.take_succ_eq_append_getElem h]

end Go.Proofs.YtjmfefaoenmppaaGreatDoor.Fx

namespace Go.Proofs.YtjmfefaoenmppaaGreatDoor.Fx
open Go.RowKit

theorem str45 {s : ByteArray} (h : s ≠ ⟨#[45]⟩) : (s.toList == [45]) = false := by
  have h2 := str_isnt h
  rw [ByteArray.toList_eq ⟨#[45]⟩] at h2
  exact h2
theorem bel_five {b : Nat} {w W : World} (h : Below b w W) (g : Nat) (hg : b ≤ g) (v0 v1 v2 v3 v4 : Value) :
    Below b w (((((W.setCell ⟨g, 0, none⟩ v0).setCell ⟨g, 1, none⟩ v1).setCell ⟨g, 2, none⟩ v2).setCell ⟨g, 3, none⟩ v3).setCell ⟨g, 4, none⟩ v4) :=
  ((((h.setCell hg _).setCell hg _).setCell hg _).setCell hg _).setCell hg _
theorem nums_all {ps : List ByteArray} (h : ∀ k (hk : k < ps.length), isNum ps[k] = true) : ∀ p ∈ ps, isNum p = true := by
  intro p hp
  obtain ⟨k, hk, rfl⟩ := List.getElem_of_mem hp
  exact h k hk

theorem num_yes (p : ByteArray) (W : World) (hp : p.size ≤ 1048576) (h : isNum p = true) : Calls Tryz.prog 138 #[.string p] W fun e w' => e = .returned (.tuple #[.int .i64 (numV p), .bool true]) ∧ W = w' :=
  (spec_numget p W (by omega)).mono fun e w' ⟨e1, e2⟩ => ⟨by rw [e1]; unfold isNum at h; rw [h]; rfl, e2⟩
theorem num_no (p : ByteArray) (W : World) (hp : p.size ≤ 1048576) (h : ¬ isNum p = true) : Calls Tryz.prog 138 #[.string p] W fun e w' => e = .returned (.tuple #[.int .i64 (numV p), .bool false]) ∧ W = w' :=
  (spec_numget p W (by omega)).mono fun e w' ⟨e1, e2⟩ => ⟨by
    have h2 : (numG p.data.toList).2 = false := by simpa [isNum] using h
    rw [e1, h2]
    rfl, e2⟩
theorem own_next_int {w : World} {base j : Nat} {v : Value} {ps : List ByteArray} {p : ByteArray} (hj : j < ps.length) (hp : p = ps[j]) (h : w.ownsRow base 3 1 v (j + 1) (intCells (ps.take j) ++ [.int .i64 (numV p)])) : w.ownsRow base 3 1 v (j + 1) (intCells (ps.take (j + 1))) := by
  rw [take_more ps j hj, show intCells (ps.take j ++ [ps[j]]) = intCells (ps.take j) ++ [.int .i64 (numV ps[j])] from (by unfold intCells; rw [List.map_append]; rfl), ← hp]
  exact h
theorem ints_at {w : World} {base g c : Nat} {ps : List ByteArray} (h : w.ownsRow base 3 1 (.slice (some ⟨g, 0, none⟩) 5 c) 5 (intCells (ps.take 5))) (h5 : ps.length = 5) :
    w.cell? ⟨g, 0, none⟩ = some (.int .i64 (five ps).a) ∧ w.cell? ⟨g, 1, none⟩ = some (.int .i64 (five ps).b) ∧ w.cell? ⟨g, 2, none⟩ = some (.int .i64 (five ps).c) ∧ w.cell? ⟨g, 3, none⟩ = some (.int .i64 (five ps).d) ∧ w.cell? ⟨g, 4, none⟩ = some (.int .i64 (five ps).e) := by
  match ps, h5 with
  | [p0, p1, p2, p3, p4], _ =>
    refine ⟨?_, ?_, ?_, ?_, ?_⟩
    · rw [h.cellAt 0 (by decide)]; rfl
    · rw [h.cellAt 1 (by decide)]; rfl
    · rw [h.cellAt 2 (by decide)]; rfl
    · rw [h.cellAt 3 (by decide)]; rfl
    · rw [h.cellAt 4 (by decide)]; rfl

def HI (wr : World) (g : Nat) (a b c d e : Int) (W : World) : Prop :=
  W.cell? ⟨g, 0, none⟩ = some (.int .i64 a) ∧ W.cell? ⟨g, 1, none⟩ = some (.int .i64 b) ∧ W.cell? ⟨g, 2, none⟩ = some (.int .i64 c) ∧ W.cell? ⟨g, 3, none⟩ = some (.int .i64 d) ∧ W.cell? ⟨g, 4, none⟩ = some (.int .i64 e) ∧ g < W.heap.size ∧ Below wr.heap.size wr W
theorem HI.drew {wr W : World} {g : Nat} {a b c d e : Int} (h : HI wr g a b c d e W) : HI wr g a b c d e W.drew := ⟨h.1, h.2.1, h.2.2.1, h.2.2.2.1, h.2.2.2.2.1, h.2.2.2.2.2.1, h.2.2.2.2.2.2.drew⟩
theorem HI.more {wr W : World} {g : Nat} {a b c d e : Int} (h : HI wr g a b c d e W) (o : Obj) : HI wr g a b c d e (W.alloc o) := by
  obtain ⟨h0, h1, h2, h3, h4, hl, hw⟩ := h
  have hn : ∀ k, (⟨g, k, none⟩ : Addr).block ≠ W.heap.size := fun k => Nat.ne_of_lt hl
  exact ⟨by rw [World.cell?_alloc_old _ _ _ (hn 0), h0], by rw [World.cell?_alloc_old _ _ _ (hn 1), h1], by rw [World.cell?_alloc_old _ _ _ (hn 2), h2], by rw [World.cell?_alloc_old _ _ _ (hn 3), h3], by rw [World.cell?_alloc_old _ _ _ (hn 4), h4], by simp; omega, bel_new hw o⟩

set_option maxRecDepth 100000 in
set_option maxHeartbeats 2000000 in
theorem spec_pget (s : ByteArray) (w : World) (hs : s.size ≤ 1048576) :
    Calls Tryz.prog 121 #[.string s] w fun e w' => e = .returned (.tuple #[(ptrG s).1.val, .bool (ptrG s).2]) ∧ Below w.heap.size w w' := by
  by_cases h1 : s = ⟨#[45]⟩
  · subst h1
    rw [ptrG_hole]
    go_enter Tryz.func121, Tryz.ntmps121
    go_wp2
    refine bodyPost_ret (v := .tuple #[P5.zero.val, .bool true]) ?_ rfl ⟨rfl, (by repeat' (first | exact Below.refl _ _ | refine bel_new ?_ _ | refine Below.drew ?_))⟩
    rw [results_cell_tmp rfl]
    go_simp
    rfl
  · have hq0 := str45 h1
    have hC := fun W => spec_cut s 46 W hs
    rw [show ((46 : UInt8).toNat : Int) = 46 from rfl] at hC
    have hsz := cutsB_short 46 s
    have hno := @ptrG_no s h1
    have hbad := @ptrG_bad s h1
    have hzero := @ptrG_zero s h1
    have hyes := @ptrG_yes s h1
    have hpn := @parts_no s
    have hpy := @parts_yes s
    obtain ⟨ps, hps⟩ : ∃ ps, ps = cutsB 46 s := ⟨_, rfl⟩
    rw [← hps] at hC hsz hpn hpy
    obtain ⟨r, hr⟩ : ∃ r, r = ptrG s := ⟨_, rfl⟩
    rw [← hr] at hno hbad hzero hyes ⊢
    clear hps h1 hr
    by_cases h5 : ps.length = 5
    · have hq5 : ((ps.length : Int) != 5) = false := by rw [h5]; rfl
      obtain ⟨i0, hi, hz0, hz1, hz2⟩ := info_parts Tryz.info3
      go_enter Tryz.func121, Tryz.ntmps121
      go_wp2_with (go_at_call 120; refine (hC _).mono ?_; rintro e w1 ⟨g, cp, rfl, ho, hb⟩; refine Hid.out ?_)
      refine Lib.hid ?_
      have Z := RBox.new hb
      have hA := StrsAt.of_own ho rfl
      have hbw : Below w.heap.size w w1 := bel_then (bel_fresh w) hb
      have o1 := World.ownsRow_made (e := 3) (base := w1.heap.size) w1 (size := 1) #[] 0 (Nat.le_refl _) (by decide) rfl
      clear ho hb hC
      go_wp2_with fail
      go_loopg [5, 6] 5 (fun gh b i wr => ∃ (j g2 c2 : Nat), gh = 5 - j ∧ j ≤ 5 ∧ i = .int .i64 j ∧ b = .slice (some ⟨g2, 0, none⟩) j c2 ∧ (∀ k (hk : k < ps.length), k < j → isNum ps[k] = true) ∧ wr.ownsRow w1.heap.size 3 1 (.slice (some ⟨g2, 0, none⟩) j c2) j (intCells (ps.take j)) ∧ Below w1.heap.size w1 wr)
      case atStart => exact ⟨0, w1.heap.size, 0, by omega, by omega, rfl, rfl, by omega, o1, bel_fresh w1⟩
      case round =>
        clear o1
        obtain ⟨j, g2, c2, hg, hj, rfl, rfl, hnum, ho, hb⟩ := hrel
        have HG := Lib.hid hg
        clear hg
        have s1 := hb.size
        have s0 := hbw.size
        have ZZ := Z.next hb
        by_cases hlt : j < 5
        · have hlt' : (j : Int) < 5 := by omega
          obtain ⟨b9, off9, e9, hlb, hc9⟩ := (hA.below hb) (by omega)
          obtain ⟨rfl, rfl⟩ : b9 = g ∧ off9 = 0 := by cases e9; exact ⟨rfl, rfl⟩
          have hck := hc9 j (by omega)
          rw [Nat.zero_add] at hck
          have hpj := hsz ps[j] (List.getElem_mem _)
          have hjp : j < ps.length := by omega
          by_cases hn : isNum ps[j] = true
          · have hN1 := fun W => num_yes ps[j] W (by omega) hn
            have HN : Hid (∀ k (hk : k < ps.length), k < j + 1 → isNum ps[k] = true) := Lib.hid (fun k hk hkj => by
              by_cases e : k = j
              · subst e; exact hn
              · exact hnum k hk (by omega))
            obtain ⟨p, hp⟩ : ∃ p, p = ps[j] := ⟨_, rfl⟩
            rw [← hp] at hN1 hck
            have HP := Lib.hid hp
            clear hpj hn hnum hp hc9 hno hbad hzero hyes hpn hpy hsz
            go_wp2_with (first | (go_at_call 138; refine (hN1 _).mono ?_; rintro e w' ⟨rfl, rfl⟩) | (at_builtin; refine wpList_append_own_at _ rfl _ _ 23 rfl w1.heap.size 3 i0 (.int .i64 0) 1 8 Tryz.underlying23 hi hz0 hz1 hz2 rfl (by decide) _ _ _ rfl (ho.alloc _) ⟨wr.heap.size, 0, none⟩ 1 1 [.int .i64 (numV p)] rfl rfl (cell_one_new _ _ _) (by simp [Value.oneCell']) (by unfold maxLen; omega) (by omega) (by simp; omega) ?_))
            intro v' w4 hown' hgrow _ hat
            have R := own_next_int hjp HP.out hown'
            have B4 : Below w1.heap.size w1 w4 := bel_row (hb.alloc hb.size _) (ho.alloc _) (Nat.le_refl _) hgrow
            obtain ⟨g4, c4, rfl⟩ := own_formt R (by omega)
            clear hown' hgrow hat ho hb
            go_wp2
            go_roundg (5 - (j + 1))
            case measure => have := HG.out; omega
            case rel => exact ⟨j + 1, g4, c4, rfl, by omega, by go_num, rfl, HN.out, R, B4⟩
          · have hN1 := fun W => num_no ps[j] W (by omega) hn
            have hv : r = (.zero, false) := hno (by rw [hpn (fun h => hn (h.2 _ (List.getElem_mem hjp)))])
            subst hv
            obtain ⟨p, hp⟩ : ∃ p, p = ps[j] := ⟨_, rfl⟩
            rw [← hp] at hN1 hck
            have z0 := ZZ.cell 0 (by decide)
            have z1 := ZZ.cell 1 (by decide)
            have z2 := ZZ.cell 2 (by decide)
            have z3 := ZZ.cell 3 (by decide)
            have z4 := ZZ.cell 4 (by decide)
            have f0 := ZZ.free 0
            have f1 := ZZ.free 1
            have f2 := ZZ.free 2
            have f3 := ZZ.free 3
            have f4 := ZZ.free 4
            clear hpj hn hnum hp hc9 hno hbad hzero hyes hpn hpy hsz
            go_wp2_with (go_at_call 138; refine (hN1 _).mono ?_; rintro e w' ⟨rfl, rfl⟩)
            refine bodyPost_ret (v := .tuple #[P5.zero.val, .bool false]) ?_ rfl ⟨rfl, bel_five (bel_then hbw hb) _ (Nat.le_refl _) _ _ _ _ _⟩
            rw [results_cell_tmp rfl]
            go_simp
            rfl
        · obtain rfl : j = 5 := by omega
          obtain ⟨c0, c1, c2', c3, c4⟩ := ints_at ho h5
          have hparts := hpy h5 (nums_all fun k hk => hnum k hk (by omega))
          rw [hparts] at hno hbad hzero hyes
          obtain ⟨a, b, c, d, e, hq⟩ : ∃ a b c d e, five ps = ⟨a, b, c, d, e⟩ := ⟨_, _, _, _, _, rfl⟩
          rw [hq] at c0 c1 c2' c3 c4 hbad hzero hyes
          have zl := ZZ.lt
          have H0 : HI wr g2 a b c d e wr := ⟨c0, c1, c2', c3, c4, (ho.lt g2 rfl).2, Below.refl _ _⟩
          have H1 := H0.drew
          have zg := (ho.lt g2 rfl).2
          have zn : w.heap.size ≠ g2 := by have := (ho.lt g2 rfl).1; have := Z.lt; omega
          have H9 := (HP.new wr a b c d e 40).drew
          have hO : ∀ W, Calls Tryz.prog 71 #[.agg #[.int .i64 a, .int .i64 b, .int .i64 c, .int .i64 d, .int .i64 e]] W fun r w' => r = .returned (.bool (isOk a b c d e)) ∧ Below W.heap.size W w' := fun W => (spec_ok a b c d e W).mono fun r w' ⟨h1, h2⟩ => ⟨h1, h2 ▸ bel_new (bel_new (Below.refl _ _) _) _⟩
          have hM : ∀ W, Calls Tryz.prog 72 #[.agg #[.int .i64 a, .int .i64 b, .int .i64 c, .int .i64 d, .int .i64 e]] W fun r w' => r = .returned (.bool (isHole a b c d e)) ∧ Below W.heap.size W w' := fun W => (spec_hole a b c d e W).mono fun r w' ⟨h1, h2⟩ => ⟨h1, h2 ▸ bel_new (Below.refl _ _) _⟩
          clear hnum hno hpn hpy hsz hparts hq hA
          have hW := bel_then hbw hb
          by_cases hk : isOk a b c d e = true
          · by_cases hh : isHole a b c d e = true
            · have hv : r = (.zero, false) := hzero hh
              subst hv
              rw [hk] at hO
              rw [hh] at hM
              clear hk hh hbad hzero hyes
              go_wp2_with fail
              go_region_held3 (fun W => W.cell? ⟨g2, 0, none⟩ = some (.int .i64 a) ∧ W.cell? ⟨g2, 1, none⟩ = some (.int .i64 b) ∧ W.cell? ⟨g2, 2, none⟩ = some (.int .i64 c) ∧ W.cell? ⟨g2, 3, none⟩ = some (.int .i64 d) ∧ W.cell? ⟨g2, 4, none⟩ = some (.int .i64 e) ∧ g2 < W.heap.size ∧ Below wr.heap.size wr W)
                ((show HI wr g2 a b c d e _; with_reducible (first | exact H0 | exact H1 | exact HI.more H1 _ | exact HI.more H0 _ | exact HI.drew (HI.more H0 _))))
                (fail)
              all_goals go_wp2_with (first | (go_at_call 71; refine (hO _).mono ?_; rintro e w5 ⟨rfl, hb5⟩; have H5 := H9.next hb5; obtain ⟨y0, y1, y2, y3, y4, yl, yb⟩ := id H5; have Z5 := ZZ.next H5.bel; have z0 := Z5.cell 0 (by decide); have z1 := Z5.cell 1 (by decide); have z2 := Z5.cell 2 (by decide); have z3 := Z5.cell 3 (by decide); have z4 := Z5.cell 4 (by decide); have f0 := Z5.free 0; have f1 := Z5.free 1; have f2 := Z5.free 2; have f3 := Z5.free 3; have f4 := Z5.free 4) | (go_at_call 72; refine (hM _).mono ?_; rintro e w6 ⟨rfl, hb6⟩; have H6 := H5.next hb6; obtain ⟨y0, y1, y2, y3, y4, yl, yb⟩ := id H6; have Z6 := ZZ.next H6.bel; have z0 := Z6.cell 0 (by decide); have z1 := Z6.cell 1 (by decide); have z2 := Z6.cell 2 (by decide); have z3 := Z6.cell 3 (by decide); have z4 := Z6.cell 4 (by decide); have f0 := Z6.free 0; have f1 := Z6.free 1; have f2 := Z6.free 2; have f3 := Z6.free 3; have f4 := Z6.free 4))
              refine bodyPost_ret (v := .tuple #[P5.zero.val, .bool false]) ?_ rfl ⟨rfl, ?_⟩
              · rw [results_cell_tmp rfl]
                go_simp
                rfl
              · exact bel_five (bel_then hW yb) _ (Nat.le_refl _) _ _ _ _ _
            · have hh' : isHole a b c d e = false := by simpa using hh
              have hv : r = (⟨a, b, c, d, e⟩, true) := hyes rfl hk hh'
              subst hv
              rw [hk] at hO
              rw [hh'] at hM
              clear hk hh hh' hbad hzero hyes
              go_wp2_with fail
              go_region_held3 (fun W => W.cell? ⟨g2, 0, none⟩ = some (.int .i64 a) ∧ W.cell? ⟨g2, 1, none⟩ = some (.int .i64 b) ∧ W.cell? ⟨g2, 2, none⟩ = some (.int .i64 c) ∧ W.cell? ⟨g2, 3, none⟩ = some (.int .i64 d) ∧ W.cell? ⟨g2, 4, none⟩ = some (.int .i64 e) ∧ g2 < W.heap.size ∧ Below wr.heap.size wr W)
                ((show HI wr g2 a b c d e _; with_reducible (first | exact H0 | exact H1 | exact HI.more H1 _ | exact HI.more H0 _ | exact HI.drew (HI.more H0 _))))
                (fail)
              all_goals go_wp2_with (first | (go_at_call 71; refine (hO _).mono ?_; rintro e w5 ⟨rfl, hb5⟩; have H5 := H9.next hb5; obtain ⟨y0, y1, y2, y3, y4, yl, yb⟩ := id H5; have Z5 := ZZ.next H5.bel; have z0 := Z5.cell 0 (by decide); have z1 := Z5.cell 1 (by decide); have z2 := Z5.cell 2 (by decide); have z3 := Z5.cell 3 (by decide); have z4 := Z5.cell 4 (by decide); have f0 := Z5.free 0; have f1 := Z5.free 1; have f2 := Z5.free 2; have f3 := Z5.free 3; have f4 := Z5.free 4) | (go_at_call 72; refine (hM _).mono ?_; rintro e w6 ⟨rfl, hb6⟩; have H6 := H5.next hb6; obtain ⟨y0, y1, y2, y3, y4, yl, yb⟩ := id H6; have Z6 := ZZ.next H6.bel; have z0 := Z6.cell 0 (by decide); have z1 := Z6.cell 1 (by decide); have z2 := Z6.cell 2 (by decide); have z3 := Z6.cell 3 (by decide); have z4 := Z6.cell 4 (by decide); have f0 := Z6.free 0; have f1 := Z6.free 1; have f2 := Z6.free 2; have f3 := Z6.free 3; have f4 := Z6.free 4))
              refine bodyPost_ret (v := .tuple #[P5.val ⟨a, b, c, d, e⟩, .bool true]) ?_ rfl ⟨rfl, ?_⟩
              · rw [results_cell_tmp rfl]
                go_simp
                rfl
              · exact bel_five (bel_then hW yb) _ (Nat.le_refl _) _ _ _ _ _
          · have hk' : isOk a b c d e = false := by simpa using hk
            have hv : r = (.zero, false) := hbad hk'
            subst hv
            rw [hk'] at hO
            clear hk hk' hbad hzero hyes
            go_wp2_with fail
            go_region_held3 (fun W => W.cell? ⟨g2, 0, none⟩ = some (.int .i64 a) ∧ W.cell? ⟨g2, 1, none⟩ = some (.int .i64 b) ∧ W.cell? ⟨g2, 2, none⟩ = some (.int .i64 c) ∧ W.cell? ⟨g2, 3, none⟩ = some (.int .i64 d) ∧ W.cell? ⟨g2, 4, none⟩ = some (.int .i64 e) ∧ g2 < W.heap.size ∧ Below wr.heap.size wr W)
              ((show HI wr g2 a b c d e _; with_reducible (first | exact H0 | exact H1 | exact HI.more H1 _ | exact HI.more H0 _ | exact HI.drew (HI.more H0 _))))
              (fail)
            all_goals go_wp2_with (first | (go_at_call 71; refine (hO _).mono ?_; rintro e w5 ⟨rfl, hb5⟩; have H5 := H9.next hb5; obtain ⟨y0, y1, y2, y3, y4, yl, yb⟩ := id H5; have Z5 := ZZ.next H5.bel; have z0 := Z5.cell 0 (by decide); have z1 := Z5.cell 1 (by decide); have z2 := Z5.cell 2 (by decide); have z3 := Z5.cell 3 (by decide); have z4 := Z5.cell 4 (by decide); have f0 := Z5.free 0; have f1 := Z5.free 1; have f2 := Z5.free 2; have f3 := Z5.free 3; have f4 := Z5.free 4) | (go_at_call 72; refine (hM _).mono ?_; rintro e w6 ⟨rfl, hb6⟩; have H6 := H5.next hb6; obtain ⟨y0, y1, y2, y3, y4, yl, yb⟩ := id H6; have Z6 := ZZ.next H6.bel; have z0 := Z6.cell 0 (by decide); have z1 := Z6.cell 1 (by decide); have z2 := Z6.cell 2 (by decide); have z3 := Z6.cell 3 (by decide); have z4 := Z6.cell 4 (by decide); have f0 := Z6.free 0; have f1 := Z6.free 1; have f2 := Z6.free 2; have f3 := Z6.free 3; have f4 := Z6.free 4))
            refine bodyPost_ret (v := .tuple #[P5.zero.val, .bool false]) ?_ rfl ⟨rfl, ?_⟩
            · rw [results_cell_tmp rfl]
              go_simp
              rfl
            · exact bel_five (bel_then hW yb) _ (Nat.le_refl _) _ _ _ _ _
    · have hv : r = (.zero, false) := hno (by rw [hpn (fun h => h5 h.1)])
      have hq5 : ((ps.length : Int) != 5) = true := by rw [bne_iff_ne]; omega
      rw [hv]
      clear hv h5 hno hbad hzero hyes hpn hpy hsz
      go_enter Tryz.func121, Tryz.ntmps121
      go_wp2_with (go_at_call 120; refine (hC _).mono ?_; rintro e w1 ⟨g, cp, rfl, ho, hb⟩; have Z := RBox.new hb; have z0 := Z.cell 0 (by decide); have z1 := Z.cell 1 (by decide); have z2 := Z.cell 2 (by decide); have z3 := Z.cell 3 (by decide); have z4 := Z.cell 4 (by decide); have f0 := Z.free 0; have f1 := Z.free 1; have f2 := Z.free 2; have f3 := Z.free 3; have f4 := Z.free 4)
      refine bodyPost_ret (v := .tuple #[P5.zero.val, .bool false]) ?_ rfl ⟨rfl, bel_five (bel_then (bel_fresh w) hb) _ (Nat.le_refl _) _ _ _ _ _⟩
      rw [results_cell_tmp rfl]
      go_simp
      rfl

end Go.Proofs.YtjmfefaoenmppaaGreatDoor.Fx

namespace Go.Proofs.YtjmfefaoenmppaaGreatDoor.Fx
open Go.RowKit

theorem gSyn : Tryz.prog.globalNamed "strconv.ErrSyntax" = some 3 := by kernel_rfl
theorem gRng : Tryz.prog.globalNamed "strconv.ErrRange" = some 4 := by kernel_rfl
theorem var_on {w w' : World} {g : Nat} {n : String} {cs : Array Value} (hg : Tryz.prog.globalNamed n = some g) (h : w.var? Tryz.prog n = some cs) (hb : Below w.heap.size w w') : w'.var? Tryz.prog n = some cs := by
  unfold World.var? at *
  simp only [hg, Option.bind_some] at h ⊢
  have hlt : g < w.heap.size := by
    rcases Nat.lt_or_ge g w.heap.size with h' | h'
    · exact h'
    · rw [Array.getElem?_eq_none h'] at h
      simp at h
  rw [hb.block g hlt]
  exact h
theorem Errs.below {w w' : World} (h : Errs w) (hb : Below w.heap.size w w') : Errs w' := by
  obtain ⟨a, b, h1⟩ := h.synt
  obtain ⟨c, d, h2⟩ := h.rang
  exact ⟨⟨a, b, var_on gSyn h1 hb⟩, ⟨c, d, var_on gRng h2 hb⟩⟩
/-- internal/bytealg.MaxLen holds some integer. -/
def MaxL (w : World) : Prop := ∃ m : Int, w.cell? ⟨0, 0, none⟩ = some (.int .i64 m)
theorem MaxL.below {w w' : World} (h : MaxL w) (hb : Below w.heap.size w w') : MaxL w' := by
  obtain ⟨m, hm⟩ := h
  exact ⟨m, (hb.cell (World.block_lt_of_cell? _ _ hm)).trans hm⟩
/-- All that the program's reading of numbers asks of the world. -/
def Env (w : World) : Prop := Tab w ∧ Errs w ∧ MaxL w
theorem Env.at {w w' : World} (h : Env w) (hb : Below w.heap.size w w') : Env w' := ⟨h.1.at hb, h.2.1.below hb, h.2.2.below hb⟩

theorem cellsOf_at (ps : List ByteArray) (N j : Nat) (h : j < ps.length) : (Lib.cellsOf ps N)[j]? = some (.string ps[j]) := by
  unfold Lib.cellsOf
  rw [List.getElem?_toArray, List.getElem?_append_left (by simpa using h), List.getElem?_map, List.getElem?_eq_getElem h]
  rfl
theorem splitN_any (s : ByteArray) (c : UInt8) (n : Nat) (w : World) (hs : s.size ≤ 1048576) (hM : MaxL w) (hn : 1 ≤ n) (hn9 : n ≤ 1000) :
    Calls Tryz.prog 135 #[.string s, .string ⟨#[c]⟩, .int .i64 n] w fun e w' =>
      ∃ g cap, e = .returned (.slice (some ⟨g, 0, none⟩) (Lib.splitB ⟨#[c]⟩ 0 (min n (s.size + 1) - 1) s).length cap) ∧ StrsAt w' (some ⟨g, 0, none⟩) (Lib.splitB ⟨#[c]⟩ 0 (min n (s.size + 1) - 1) s) ∧ Below w.heap.size w w' := by
  obtain ⟨m, hm⟩ := hM
  refine (Tryz.strings_SplitN s ⟨#[c]⟩ n m w (by omega) hm (Nat.le_refl _) hn (by omega)).mono fun e w' ⟨he, hw⟩ => ?_
  subst hw
  refine ⟨_, _, he, fun h0 => ⟨_, _, rfl, by simp, fun j hj => ?_⟩, bel_fresh w⟩
  rw [Nat.zero_add, World.cell?_alloc_mark]
  exact cellsOf_at _ _ j hj

/-- An array of five integers in a block of its own. -/
def Vec (B : Nat) (f : Nat → Int) (W : World) : Prop := ∃ cur, W.heap[B]? = some (.cells cur 177 (0, 0)) ∧ cur.size = 5 ∧ ∀ k, k < 5 → cur[k]? = some (.int .i64 (f k))
theorem Vec.lt {B : Nat} {f : Nat → Int} {W : World} (h : Vec B f W) : B < W.heap.size := by
  obtain ⟨cur, h1, _⟩ := h
  exact (Array.getElem?_eq_some_iff.1 h1).1
theorem Vec.cell {B : Nat} {f : Nat → Int} {W : World} (h : Vec B f W) (k : Nat) (hk : k < 5) : W.cell? ⟨B, k, none⟩ = some (.int .i64 (f k)) := by
  obtain ⟨cur, h1, _, h3⟩ := h
  simp [World.cell?, h1, h3 k hk]
theorem Vec.free {B : Nat} {f : Nat → Int} {W : World} (h : Vec B f W) (k : Nat) : W.frozen? ⟨B, k, none⟩ = false := by
  obtain ⟨cur, h1, _, _⟩ := h
  simp [World.frozen?, h1]
theorem Vec.next {B : Nat} {f : Nat → Int} {W W' : World} (h : Vec B f W) (hb : Below W.heap.size W W') : Vec B f W' := by
  have hl := h.lt
  obtain ⟨cur, h1, h2, h3⟩ := h
  exact ⟨cur, (hb.block B hl).trans h1, h2, h3⟩
theorem Vec.new (W : World) : Vec W.heap.size (fun _ => 0) (W.alloc (.cells #[.int .i64 0, .int .i64 0, .int .i64 0, .int .i64 0, .int .i64 0] 177)) :=
  ⟨_, heap_alloc_new W _, rfl, fun k hk => by rcases (show k = 0 ∨ k = 1 ∨ k = 2 ∨ k = 3 ∨ k = 4 by omega) with rfl | rfl | rfl | rfl | rfl <;> rfl⟩
theorem Vec.set {B : Nat} {f f' : Nat → Int} {W : World} (h : Vec B f W) (k : Nat) (v : Int) (hk : k < 5) (hv : f' k = v) (hf : ∀ i, i ≠ k → f' i = f i) : Vec B f' (W.setCell ⟨B, k, none⟩ (.int .i64 v)) := by
  obtain ⟨cur, h1, h2, h3⟩ := h
  refine ⟨cur.setIfInBounds k (.int .i64 v), ?_, by simpa using h2, fun i hi => ?_⟩
  · simp [World.setCell, Array.getElem?_modify, h1]
  · by_cases e : k = i
    · subst e
      rw [Array.getElem?_setIfInBounds_self_of_lt (by omega), hv]
    · rw [Array.getElem?_setIfInBounds_ne e, h3 i hi, hf i (Ne.symm e)]
theorem RBox.set {g B k : Nat} {W : World} (h : RBox g W) (hn : B ≠ g) (v : Value) : RBox g (W.setCell ⟨B, k, none⟩ v) := by
  unfold RBox at *
  simp [World.setCell, Array.getElem?_modify, hn, h]
theorem StrsAt.set {w : World} {g B k : Nat} {ss : List ByteArray} (h : StrsAt w (some ⟨g, 0, none⟩) ss) (hn : B ≠ g) (v : Value) : StrsAt (w.setCell ⟨B, k, none⟩ v) (some ⟨g, 0, none⟩) ss := by
  intro h0
  obtain ⟨b, off, e, hlt, hc⟩ := h h0
  cases e
  exact ⟨g, 0, rfl, by simpa [World.setCell] using hlt, fun j hj => by rw [World.cell?_setCell_other (h := fun e => hn (congrArg Addr.block e)), hc j hj]⟩

end Go.Proofs.YtjmfefaoenmppaaGreatDoor.Fx
