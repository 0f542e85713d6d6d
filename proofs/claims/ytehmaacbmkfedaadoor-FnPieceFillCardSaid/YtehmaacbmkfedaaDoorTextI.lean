/-
  The text of a pointer, number by number: both ways of writing it agree.
-/
import Derived.Test.YtehmaacbmkfedaaDoorPtr
import Derived.Test.YtehmaacbmkfedaaDoorDig
import Derived.Deep.RegionHeld3
namespace Go.Proofs.YtehmaacbmkfedaaDoor
open Go.RowKit

def joinB (p q r s t : List UInt8) : List UInt8 := p ++ [46] ++ q ++ [46] ++ r ++ [46] ++ s ++ [46] ++ t

def HP (w : World) (a b c d e : Int) (W : World) : Prop :=
  W.cell? ⟨w.heap.size, 0, none⟩ = some (.int .i64 a) ∧ W.cell? ⟨w.heap.size, 1, none⟩ = some (.int .i64 b) ∧ W.cell? ⟨w.heap.size, 2, none⟩ = some (.int .i64 c) ∧ W.cell? ⟨w.heap.size, 3, none⟩ = some (.int .i64 d) ∧ W.cell? ⟨w.heap.size, 4, none⟩ = some (.int .i64 e) ∧ w.heap.size < W.heap.size ∧ Below w.heap.size w W
theorem HP.next {w W W' : World} {a b c d e : Int} (h : HP w a b c d e W) (hb : Below W.heap.size W W') : HP w a b c d e W' := by
  obtain ⟨h0, h1, h2, h3, h4, hl, hw⟩ := h
  exact ⟨(hb.cell hl).trans h0, (hb.cell hl).trans h1, (hb.cell hl).trans h2, (hb.cell hl).trans h3, (hb.cell hl).trans h4, Nat.lt_of_lt_of_le hl hb.size, hw.trans (hb.mono hw.size)⟩
theorem HP.drew {w W : World} {a b c d e : Int} (h : HP w a b c d e W) : HP w a b c d e W.drew := ⟨h.1, h.2.1, h.2.2.1, h.2.2.2.1, h.2.2.2.2.1, h.2.2.2.2.2.1, h.2.2.2.2.2.2.drew⟩

theorem HP.new (w : World) (a b c d e : Int) (t : TypeId) : HP w a b c d e (w.alloc (.cells #[.int .i64 a, .int .i64 b, .int .i64 c, .int .i64 d, .int .i64 e] t)) :=
  ⟨by rw [World.cell?_alloc_mark]; rfl, by rw [World.cell?_alloc_mark]; rfl, by rw [World.cell?_alloc_mark]; rfl, by rw [World.cell?_alloc_mark]; rfl, by rw [World.cell?_alloc_mark]; rfl, by simp, bel_new (Below.refl _ _) _⟩

set_option maxHeartbeats 2000000 in
theorem spec_text (a b c d e : Int) (w : World) (h : inAll a b c d e) (hh : isHole a b c d e = false) :
    Calls Tryd.prog 23 #[.agg #[.int .i64 a, .int .i64 b, .int .i64 c, .int .i64 d, .int .i64 e]] w fun r w' => r = .returned (.string (strOf (joinB (Lib.decDigits a.toNat) (Lib.decDigits b.toNat) (Lib.decDigits c.toNat) (Lib.decDigits d.toNat) (Lib.decDigits e.toNat)))) ∧ Below w.heap.size w w' := by
  have hk : isOk a b c d e = true := by rw [isOk_inAll]; rw [hh]; simpa using h
  have hO : ∀ w, Calls Tryd.prog 43 #[.agg #[.int .i64 a, .int .i64 b, .int .i64 c, .int .i64 d, .int .i64 e]] w fun r w' => r = .returned (.bool true) ∧ Below w.heap.size w w' := fun w => (spec_ok a b c d e w).mono fun r w' ⟨h1, h2⟩ => ⟨by rw [h1, hk], by rw [h2]; exact bel_new (bel_new (Below.refl _ _) _) _⟩
  have hM : ∀ w, Calls Tryd.prog 44 #[.agg #[.int .i64 a, .int .i64 b, .int .i64 c, .int .i64 d, .int .i64 e]] w fun r w' => r = .returned (.bool false) ∧ Below w.heap.size w w' := fun w => (spec_hole a b c d e w).mono fun r w' ⟨h1, h2⟩ => ⟨by rw [h1, hh], by rw [h2]; exact bel_new (Below.refl _ _) _⟩
  obtain ⟨h1, h2, h3, h4, h5⟩ := h
  have hD := fun (x : Int) (h0 : 0 ≤ x) (h9 : x ≤ 99460728) (W : World) => dec_any x.toNat x W h0 (by omega) (by omega)
  have hL := fun (x : Int) (h0 : 0 ≤ x) (h9 : x ≤ 99460728) => (dec_good x.toNat (by omega)).2.1
  have hA := hD a (by omega) (by omega)
  have hB := hD b (by omega) (by omega)
  have hC := hD c (by omega) (by omega)
  have hDD := hD d (by omega) (by omega)
  have hE := hD e (by omega) (by omega)
  have la := hL a (by omega) (by omega)
  have lb := hL b (by omega) (by omega)
  have lc := hL c (by omega) (by omega)
  have ld := hL d (by omega) (by omega)
  have le := hL e (by omega) (by omega)
  unfold joinB
  obtain ⟨da, hda⟩ : ∃ x, x = Lib.decDigits a.toNat := ⟨_, rfl⟩
  obtain ⟨db, hdb⟩ : ∃ x, x = Lib.decDigits b.toNat := ⟨_, rfl⟩
  obtain ⟨dc, hdc⟩ : ∃ x, x = Lib.decDigits c.toNat := ⟨_, rfl⟩
  obtain ⟨dd, hdd⟩ : ∃ x, x = Lib.decDigits d.toNat := ⟨_, rfl⟩
  obtain ⟨de, hde⟩ : ∃ x, x = Lib.decDigits e.toNat := ⟨_, rfl⟩
  rw [← hda] at hA la
  rw [← hdb] at hB lb
  rw [← hdc] at hC lc
  rw [← hdd] at hDD ld
  rw [← hde] at hE le
  rw [← hda, ← hdb, ← hdc, ← hdd, ← hde]
  clear hda hdb hdc hdd hde hL
  obtain ⟨o1, ho1⟩ : ∃ o, o = da ++ [46] := ⟨_, rfl⟩
  obtain ⟨p1, hp1⟩ : ∃ p, p = o1 ++ db := ⟨_, rfl⟩
  have lo1 : o1.length ≤ 10 := by rw [ho1, List.length_append, List.length_singleton]; omega
  have lp1 : p1.length ≤ 19 := by rw [hp1, List.length_append]; omega
  have ao1 : ∀ w, (Op.stringOp .add (strOf da) ⟨#[46]⟩).run Tryd.prog w = .ok (.string (strOf o1)) w := by
    intro w
    rw [ho1]
    exact add_strs Tryd.prog da [46] (by simp; omega) w
  have ap1 := add_strs Tryd.prog o1 db (by omega)
  rw [← hp1] at ap1
  obtain ⟨o2, ho2⟩ : ∃ o, o = p1 ++ [46] := ⟨_, rfl⟩
  obtain ⟨p2, hp2⟩ : ∃ p, p = o2 ++ dc := ⟨_, rfl⟩
  have lo2 : o2.length ≤ 20 := by rw [ho2, List.length_append, List.length_singleton]; omega
  have lp2 : p2.length ≤ 29 := by rw [hp2, List.length_append]; omega
  have ao2 : ∀ w, (Op.stringOp .add (strOf p1) ⟨#[46]⟩).run Tryd.prog w = .ok (.string (strOf o2)) w := by
    intro w
    rw [ho2]
    exact add_strs Tryd.prog p1 [46] (by simp; omega) w
  have ap2 := add_strs Tryd.prog o2 dc (by omega)
  rw [← hp2] at ap2
  obtain ⟨o3, ho3⟩ : ∃ o, o = p2 ++ [46] := ⟨_, rfl⟩
  obtain ⟨p3, hp3⟩ : ∃ p, p = o3 ++ dd := ⟨_, rfl⟩
  have lo3 : o3.length ≤ 30 := by rw [ho3, List.length_append, List.length_singleton]; omega
  have lp3 : p3.length ≤ 39 := by rw [hp3, List.length_append]; omega
  have ao3 : ∀ w, (Op.stringOp .add (strOf p2) ⟨#[46]⟩).run Tryd.prog w = .ok (.string (strOf o3)) w := by
    intro w
    rw [ho3]
    exact add_strs Tryd.prog p2 [46] (by simp; omega) w
  have ap3 := add_strs Tryd.prog o3 dd (by omega)
  rw [← hp3] at ap3
  obtain ⟨o4, ho4⟩ : ∃ o, o = p3 ++ [46] := ⟨_, rfl⟩
  obtain ⟨p4, hp4⟩ : ∃ p, p = o4 ++ de := ⟨_, rfl⟩
  have lo4 : o4.length ≤ 40 := by rw [ho4, List.length_append, List.length_singleton]; omega
  have lp4 : p4.length ≤ 49 := by rw [hp4, List.length_append]; omega
  have ao4 : ∀ w, (Op.stringOp .add (strOf p3) ⟨#[46]⟩).run Tryd.prog w = .ok (.string (strOf o4)) w := by
    intro w
    rw [ho4]
    exact add_strs Tryd.prog p3 [46] (by simp; omega) w
  have ap4 := add_strs Tryd.prog o4 de (by omega)
  rw [← hp4] at ap4
  rw [← ho1, ← hp1, ← ho2, ← hp2, ← ho3, ← hp3, ← ho4, ← hp4]
  clear hD hk hh h1 h2 h3 h4 h5 ho1 hp1 ho2 hp2 ho3 hp3 ho4 hp4 lo1 lp1 lo2 lp2 lo3 lp3 lo4 lp4 la lb lc ld le
  go_enter Tryd.func23, Tryd.ntmps23
  go_wp2_with (go_at_call 43; refine (hO _).mono ?_; rintro r w1 ⟨rfl, hb1⟩; refine Hid.out ?_)
  refine Lib.hid ?_
  have H1 := (HP.new w a b c d e 29).next hb1
  obtain ⟨q0, q1, q2, q3, q4, ql, qb⟩ := id H1
  clear hb1 hO
  go_wp2_with (go_at_call 44; refine (hM _).mono ?_; rintro r w2 ⟨rfl, hb2⟩; refine Hid.out ?_)
  refine Lib.hid ?_
  have H2 := H1.next hb2
  clear hb2 hM H1 q0 q1 q2 q3 q4 ql qb
  go_wp2_with fail
  go_region_held3 (fun W => W.cell? ⟨w.heap.size, 0, none⟩ = some (.int .i64 a) ∧ W.cell? ⟨w.heap.size, 1, none⟩ = some (.int .i64 b) ∧ W.cell? ⟨w.heap.size, 2, none⟩ = some (.int .i64 c) ∧ W.cell? ⟨w.heap.size, 3, none⟩ = some (.int .i64 d) ∧ W.cell? ⟨w.heap.size, 4, none⟩ = some (.int .i64 e) ∧ w.heap.size < W.heap.size ∧ Below w.heap.size w W)
    (first | exact HP.drew H2 | exact HP.next (by assumption) hb)
    (first | (go_at_call_of 22 (Value.int .i64 a); refine (hA _).mono ?_; rintro r w' ⟨rfl, hb⟩) | (go_at_call_of 22 (Value.int .i64 b); refine (hB _).mono ?_; rintro r w' ⟨rfl, hb⟩) | (go_at_call_of 22 (Value.int .i64 c); refine (hC _).mono ?_; rintro r w' ⟨rfl, hb⟩) | (go_at_call_of 22 (Value.int .i64 d); refine (hDD _).mono ?_; rintro r w' ⟨rfl, hb⟩) | (go_at_call_of 22 (Value.int .i64 e); refine (hE _).mono ?_; rintro r w' ⟨rfl, hb⟩))
  rename_i hH
  have hbb := hH.2.2.2.2.2.2
  clear hH ao1 ap1 ao2 ap2 ao3 ap3 ao4 ap4 hA hB hC hDD hE
  go_wp2_with fail
  go_ret
  exact ⟨rfl, hbb⟩

end Go.Proofs.YtehmaacbmkfedaaDoor
