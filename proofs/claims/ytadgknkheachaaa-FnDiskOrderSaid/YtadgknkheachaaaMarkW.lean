/-
  The marks that a law writes into waiting writes, and into a whole disk.
-/
import Derived.Test.YtadgknkheachaaaMark
namespace Go.Proofs.Ytadgknkheachaaa
open Go.RowKit

def markW (a i : Nat) : Wt := ⟨((a + 2 * i : Nat) : Int), strOf (markL (a + 2 * i + 1))⟩
def marksW (a n : Nat) : List Wt := (List.range n).map (markW a)
theorem marksW_len (a n : Nat) : (marksW a n).length = n := by simp [marksW]
theorem marksW_next (a n : Nat) : marksW a (n + 1) = marksW a n ++ [markW a n] := by simp [marksW, List.range_succ]
theorem marksW_at (a n k : Nat) (h : k < n) : (wtCells (marksW a n))[k * 2]? = some (.int .i64 ((a + 2 * k : Nat) : Int)) ∧ (wtCells (marksW a n))[k * 2 + 1]? = some (.string (strOf (markL (a + 2 * k + 1)))) := by
  have h2 := wtCells_at (marksW a n) k (by rw [marksW_len]; exact h)
  have h3 : (marksW a n)[k]'(by rw [marksW_len]; exact h) = markW a k := by simp [marksW]
  rw [h3] at h2
  exact h2
theorem wt_split (a : Nat) (ws : List Wt) (k : Nat) (h : k < ws.length) : wtCells (marksW a k ++ ws.drop k) = wtCells (marksW a k) ++ (.int .i64 ws[k].num) :: (.string ws[k].text) :: wtCells (ws.drop (k + 1)) := by
  rw [List.drop_eq_getElem_cons h, wtCells_app]
  rfl
theorem set_markW (a : Nat) (ws : List Wt) (k : Nat) (h : k < ws.length) :
    ((wtCells (marksW a k ++ ws.drop k)).set (k * 2) (.int .i64 ((a + 2 * k : Nat) : Int))).set (k * 2 + 1) (.string (strOf (markL (a + 2 * k + 1)))) = wtCells (marksW a (k + 1) ++ ws.drop (k + 1)) := by
  rw [wt_split a ws k h, set_two _ _ _ _ _ _ (k * 2) (by rw [wtCells_len, marksW_len]), marksW_next, List.append_assoc, wtCells_app]
  rfl

def MarkPostW (base : Nat) (v : Value) (a n : Nat) (w : World) (e : Ending) (w' : World) : Prop :=
  e = .returned (.int .i64 ((a : Int) + 2 * (n : Int))) ∧ w'.ownsRow base 58 2 v n (wtCells (marksW a n)) ∧ w.grownBy w' v.ownBlock

set_option maxHeartbeats 1000000 in
theorem mark_waits (base : Nat) (A : Option Addr) (c : Nat) (ws : List Wt) (a : Nat) (w : World) (ha : 1 ≤ a) (hn : a + 2 * ws.length ≤ 9999999) (ho : w.ownsRow base 58 2 (.slice A ws.length c) ws.length (wtCells ws)) :
    Calls Try.prog 55 #[.slice A ws.length c, .int .i64 (a : Int)] w (MarkPostW base (.slice A ws.length c) a ws.length w) := by
  go_enter Try.func55, Try.ntmps55
  go_wp2
  go_loopg [1, 5] ws.length (fun gh m i wr => ∃ (k : Nat) (z : Int), gh = ws.length - k ∧ k ≤ ws.length ∧ i = .int .i64 k ∧ m = .int .i64 z ∧ z = (a : Int) + 2 * (k : Int) ∧ wr.ownsRow base 58 2 (.slice A ws.length c) ws.length (wtCells (marksW a k ++ ws.drop k)) ∧ w.grownBy wr (Value.slice A ws.length c).ownBlock)
  case atStart => exact ⟨0, a, rfl, Nat.zero_le _, rfl, rfl, by simp, by simpa [marksW] using ho, World.grownBy.refl _ _⟩
  case round =>
    clear ho
    obtain ⟨k, z, hg, hk, rfl, rfl, hz, ho, hb⟩ := hrel
    have HG := Lib.hid hg
    clear hg
    by_cases hlt : k < ws.length
    · obtain ⟨g, rfl⟩ := own_addr ho (by omega)
      have hM := fun W => mark_text (z + 1) W (by omega) (by omega)
      rw [show (z + 1).toNat = a + 2 * k + 1 by omega] at hM
      have hset := set_markW a ws k hlt
      rw [show ((a + 2 * k : Nat) : Int) = z by omega] at hset
      have hz1 : 1 ≤ z := by omega
      have hz2 : z ≤ 9999997 := by omega
      have HZ := Lib.hid hz
      clear hz
      have hsp := wt_split a ws k hlt
      have hl : (wtCells (marksW a k)).length = k * 2 := by rw [wtCells_len, marksW_len]
      obtain ⟨x, hx⟩ : ∃ x, x = strOf (markL (a + 2 * k + 1)) := ⟨_, rfl⟩
      rw [← hx] at hM hset
      have hc0 : wr.cell? ⟨g, k * 2, none⟩ = some (.int .i64 ws[k].num) := by
        rw [ho.cellAt (k * 2) (by omega), hsp, List.getElem?_append_right (by omega), hl, Nat.sub_self]
        rfl
      have hf0 := ho.frozenAt (k * 2)
      have hst := (ho.stored (k * 2) (.int .i64 z)).1
      have hsg := (ho.stored (k * 2) (.int .i64 z)).2
      have hlt' : (k : Int) < (ws.length : Int) := by omega
      have hw1 := IntWalk.i64_in (z + 1) (by omega)
      obtain ⟨q, hq⟩ : ∃ q, q = ws[k].num := ⟨_, rfl⟩
      rw [← hq] at hc0
      have HL := Lib.hid hl
      have HSP := Lib.hid hsp
      have HSET := Lib.hid hset
      have HO := Lib.hid hst
      have HSG := Lib.hid hsg
      clear hx hl hsp hset hst hsg hq
      go_wp2_with (go_at_call 81; refine (hM _).mono ?_; rintro e w1 ⟨rfl, hb1⟩; refine Hid.out ?_)
      refine Lib.hid ?_
      have ho1 := own_bel HO.out hb1
      have g1 := grown_trans (grown_trans hb HSG.out) (below_grown hb1 _)
      clear ho hb hM hb1
      have hc1 : w1.cell? ⟨g, k * 2 + 1, none⟩ = some (.string ws[k].text) := by
        rw [ho1.cellAt (k * 2 + 1) (by omega), HSP.out, List.getElem?_set_ne (by omega), List.getElem?_append_right (by have := HL.out; omega), HL.out, show k * 2 + 1 - k * 2 = 1 by omega]
        rfl
      have hf1 := ho1.frozenAt (k * 2 + 1)
      have hst := (ho1.stored (k * 2 + 1) (.string x)).1
      have hsg := (ho1.stored (k * 2 + 1) (.string x)).2
      rw [HSET.out] at hst
      have G2 := grown_trans g1 hsg
      obtain ⟨q2, hq2⟩ : ∃ q, q = ws[k].text := ⟨_, rfl⟩
      rw [← hq2] at hc1
      have hw2 := IntWalk.i64_in (z + 1 + 1) (by omega)
      clear hq2 ho1 g1 hsg
      go_wp2_with fail
      go_roundg (ws.length - (k + 1))
      case measure => have := HG.out; omega
      case rel => exact ⟨k + 1, z + 1 + 1, rfl, by omega, by go_num, rfl, by have := HZ.out; omega, hst, G2⟩
    · have hke : k = ws.length := by omega
      subst hke
      rw [List.drop_length, List.append_nil] at ho
      have hr : Ending.returned (.int .i64 z) = .returned (.int .i64 ((a : Int) + 2 * ((ws.length : Nat) : Int))) := by rw [hz]
      have HR := Lib.hid hr
      clear hz hr
      go_wp2_with fail
      go_ret
      exact ⟨HR.out, ho, hb⟩

set_option maxRecDepth 100000 in
set_option maxHeartbeats 1000000 in
theorem held_waits (base : Nat) (A : Option Addr) (c n a : Nat) (w : World) (ha : 1 ≤ a) (hn : a + 2 * n ≤ 9999999) (ho : w.ownsRow base 58 2 (.slice A n c) n (wtCells (marksW a n))) :
    Calls Try.prog 57 #[.slice A n c, .int .i64 (a : Int)] w fun e w' => e = .returned (.int .i64 ((a : Int) + 2 * (n : Int))) ∧ Below w.heap.size w w' := by
  go_enter Try.func57, Try.ntmps57
  go_wp2
  go_loopg [1, 5] n (fun gh m i wr => ∃ (k : Nat) (z : Int), gh = n - k ∧ k ≤ n ∧ i = .int .i64 k ∧ m = .int .i64 z ∧ z = (a : Int) + 2 * (k : Int) ∧ Below w.heap.size w wr)
  case atStart => exact ⟨0, a, rfl, Nat.zero_le _, rfl, rfl, by simp, Below.refl _ _⟩
  case round =>
    obtain ⟨k, z, hg, hk, rfl, rfl, hz, hb⟩ := hrel
    have HG := Lib.hid hg
    clear hg
    by_cases hlt : k < n
    · obtain ⟨g, rfl⟩ := own_addr ho (by omega)
      have hM := fun w => mark_text (z + 1) w (by omega) (by omega)
      have hor := own_bel ho hb
      have hgl := (hor.lt g rfl).2
      have hck0 : wr.cell? ⟨g, k * 2, none⟩ = some (.int .i64 z) := by rw [hor.cellAt (k * 2) (by omega), (marksW_at a n k hlt).1, hz]; congr 2
      have hck : wr.cell? ⟨g, k * 2 + 1, none⟩ = some (.string (strOf (markL (a + 2 * k + 1)))) := by rw [hor.cellAt (k * 2 + 1) (by omega), (marksW_at a n k hlt).2]
      rw [show (z + 1).toNat = a + 2 * k + 1 by omega] at hM
      obtain ⟨x, hx⟩ : ∃ x, x = strOf (markL (a + 2 * k + 1)) := ⟨_, rfl⟩
      rw [← hx] at hM hck
      have hq : (!x.toList == x.toList) = false := by simp
      have hq2 : (z != z) = false := by simp
      have hlt' : (k : Int) < (n : Int) := by omega
      have hw1 := IntWalk.i64_in (z + 1) (by omega)
      have hw2 := IntWalk.i64_in (z + 1 + 1) (by omega)
      have HO := Lib.hid ho
      have HZ := Lib.hid hz
      clear hx hor ho hz
      go_upto_region 7 with fail
      go_cut [28] (fun s wx => s = .bool false ∧ Below w.heap.size w wx)
      case first =>
        go_region_with (go_at_call 81; refine (hM _).mono ?_; rintro e w1 ⟨rfl, hb1⟩; have hcw : w1.cell? ⟨g, k * 2 + 1, none⟩ = some (.string x) := (hb1.cell (p := ⟨g, k * 2 + 1, none⟩) (by simpa using hgl)).trans hck)
        all_goals clear hM
        all_goals go_wp2_with fail
        all_goals go_meet
        all_goals exact ⟨rfl, hb.drew.trans (hb1.mono hb.size)⟩
      case rest =>
        obtain ⟨rfl, hb2⟩ := hcut
        go_wp2_with fail
        go_roundg (n - (k + 1))
        case measure => have := HG.out; omega
        case rel => exact ⟨k + 1, z + 1 + 1, rfl, by omega, by go_num, rfl, by have := HZ.out; omega, hb2⟩
    · have hke : k = n := by omega
      subst hke
      have hr : Ending.returned (.int .i64 z) = .returned (.int .i64 ((a : Int) + 2 * ((k : Nat) : Int))) := by rw [hz]
      have HR := Lib.hid hr
      clear hz hr
      go_wp2_with fail
      go_ret
      exact ⟨HR.out, hb⟩
end Go.Proofs.Ytadgknkheachaaa
