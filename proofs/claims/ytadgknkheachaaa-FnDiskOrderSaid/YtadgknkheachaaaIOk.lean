/-
  Whether a disk is valid, as the program asks it.
-/
import Derived.Test.YtadgknkheachaaaArr
namespace Go.Proofs.Ytadgknkheachaaa
open Go.RowKit

theorem Lies.range {w : World} {A : Option Addr} {xs : List Value} (h : Lies w A xs) (h0 : 0 < xs.length) : ∃ b off, A = some ⟨b, off, none⟩ ∧ b < w.heap.size ∧ w.rangeAt b off xs := by
  obtain ⟨b, off, e, hlt, hc⟩ := h h0
  exact ⟨b, off, e, hlt, hc⟩

theorem wpList_load_guard {P : Program} {ops : Array Oper} {rest : List Oper} {op : Oper} {a : Act} {w : World} {Q : Exit → Act → World → Prop} (hw : Region.wanted op (yielded ops a.tmps) = true) (ty : TypeId) (x : Operand) (ho : op.op = .load ty x)
    (b o : Nat) (hx : a.eval x = .pointer (some ⟨b, o, none⟩)) (cs : List Value) (d : TypeDesc) (hc : w.rangeAt b o cs)
    (hu : P.underlying ty = some d) (hd : d.isRow = true) (hi : (P.info? ty).map (·.size) = some cs.length)
    (h : wpList P ops Q rest (a.put op.dst (.agg cs.toArray)) w) : wpList P ops Q (op :: rest) a w :=
  wpList_step fun K hK => by rw [if_pos hw]; exact wp_load_mid ty x ho b o hx cs d hc hu hd hi (hK _ _ h)

set_option maxRecDepth 100000 in
set_option maxHeartbeats 2000000 in
theorem impl_ok_gone (A B : Option Addr) (c e : Nat) (cs : List ByteArray) (ws : List Wt) (w : World) (hd : Bulk ⟨cs, ws, true⟩) (h : DkAt w A B ⟨cs, ws, true⟩) (h64 : cs.length = 64) (h120 : ws.length ≤ 120) (hz : ws.length = 0) :
    Calls Try.prog 63 #[.agg #[.slice A cs.length c, .slice B ws.length e, .bool true]] w (OkPost ⟨cs, ws, true⟩ w) := by
  have hres : okD ⟨cs, ws, true⟩ = blankB cs := by
    rw [Bool.eq_iff_iff, okD_iff]
    simp only [blankB, decide_eq_true_eq]
    constructor
    · intro h
      exact (h.2.2.1 rfl).2
    · intro hb
      have hw : ws = [] := List.eq_nil_of_length_eq_zero hz
      subst hw
      exact ⟨h64, h120, fun _ => ⟨rfl, hb⟩, fun s hs => by have := hb s hs; omega, fun x hx => by cases hx⟩
  have a1 : ((cs.length : Int) != 64) = false := by rw [h64]; rfl
  have a2 : ¬ (120 : Int) < (ws.length : Int) := by omega
  have a3 : ((ws.length : Int) == 0) = true := by rw [hz]; rfl
  obtain ⟨b, off, rfl, hb, hr⟩ := h.1.range (by show 0 < (strCells cs).length; rw [strCells_len]; omega)
  have k1 := fun w => arr_at (some ⟨b, off, none⟩) cs.length c (by omega) w
  have k4 := fun w => arr_eq10 w cs h64
  have hr2 := World.rangeAt_alloc hr (.cells #[.slice (some ⟨b, off, none⟩) cs.length c, .slice B ws.length e, .bool true] 25)
  have i60 := info60 (strCells cs).length (by rw [strCells_len, h64])
  obtain ⟨ca, hca⟩ : ∃ ca, ca = strCells cs := ⟨_, rfl⟩
  obtain ⟨r, hr'⟩ : ∃ r, r = blankB cs := ⟨_, rfl⟩
  rw [← hca] at hr2 k4 i60
  rw [blank_lit] at k4
  rw [← hr'] at k4 hres
  have RR := Lib.hid hr2
  have II := Lib.hid i60
  have HR := Lib.hid hres
  clear h64 hz hd h hr hca hr' hres hr2 i60
  go_enter Try.func63, Try.ntmps63
  go_wp2_with (refine wpList_load_guard (by first | rfl | simp [Region.wanted, yielded]) 60 _ rfl b off rfl ca _ RR.out Try.underlying60 rfl II.out ?_)
  go_ret
  exact ⟨by rw [HR.out]; rfl, bel_new (Below.refl _ _) _⟩
end Go.Proofs.Ytadgknkheachaaa
