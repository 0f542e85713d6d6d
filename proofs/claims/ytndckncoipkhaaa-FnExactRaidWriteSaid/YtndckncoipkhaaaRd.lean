/-
  What is read from a disk, as the model reads it.
-/
import Derived.Test.YtndckncoipkhaaaMB
namespace Go.Proofs.Ytndckncoipkhaaa
open Go.RowKit

def RdPost (s : ByteArray) (w : World) (r : Ending) (w' : World) : Prop := r = .returned (.string s) ∧ Below w.heap.size w w'

set_option maxRecDepth 100000 in
set_option maxHeartbeats 2000000 in
theorem spec_latest (A B : Option Addr) (c e : Nat) (d : Dk) (n : Int) (w : World) (hd : Bulk d) (hA : DkAt w A B d) (h64 : d.cells.length = 64) (hn : 0 ≤ n ∧ n ≤ 63) :
    Calls Try.prog 121 #[.agg #[.slice A d.cells.length c, .slice B d.waits.length e, .bool d.gone], .int .i64 n] w (RdPost (latest d n) w) := by
  obtain ⟨cs, ws, g⟩ := d
  obtain ⟨l1, l2⟩ := hA
  have hm := hd.waits
  simp only at l1 l2 h64 hm ⊢
  obtain ⟨k, rfl⟩ : ∃ k : Nat, n = (k : Int) := ⟨n.toNat, by omega⟩
  have hk64 : k < cs.length := by omega
  obtain ⟨bA, oA, rfl, hbA, hcA⟩ := l1.str k hk64
  have hlt : latest ⟨cs, ws, g⟩ (k : Int) = rd ws (k : Int) cs[k] ws.length := by
    show rd ws (k : Int) (cs.getD (k : Int).toNat none8) ws.length = _
    rw [Int.toNat_natCast, List.getD_eq_getElem?_getD, List.getElem?_eq_getElem hk64]
    rfl
  rw [hlt]
  obtain ⟨z, hz⟩ : ∃ z, z = cs[k] := ⟨_, rfl⟩
  rw [← hz] at hcA ⊢
  have hkc : (k : Int) < (cs.length : Int) := by omega
  clear hlt hz l1 h64 hd hn
  go_enter Try.func121, Try.ntmps121
  go_wp2
  go_loop [5] (fun i => ∃ j : Nat, j ≤ ws.length ∧ i = .int .i64 ((j : Int) - 1) ∧ rd ws (k : Int) z j = rd ws (k : Int) z ws.length) (fun i => (intOf i + 1).toNat)
  case atStart => exact ⟨ws.length, Nat.le_refl _, rfl, rfl⟩
  case round =>
    obtain ⟨j, hj, rfl, hr⟩ := hrel
    have HR := Lib.hid hr
    clear hr
    by_cases hj0 : 0 < j
    · obtain ⟨i, rfl⟩ : ∃ i, j = i + 1 := ⟨j - 1, by omega⟩
      have hi : i < ws.length := by omega
      obtain ⟨b, off, rfl, hlb, y0, y1⟩ := l2.wt i hi
      have hnx := rd_next ws (k : Int) z i hi
      obtain ⟨x, hx⟩ : ∃ x, x = ws[i].text := ⟨_, rfl⟩
      obtain ⟨m, hm'⟩ : ∃ m, m = ws[i].num := ⟨_, rfl⟩
      rw [← hx] at y1 hnx
      rw [← hm'] at y0 hnx
      have hcast : ((i + 1 : Nat) : Int) - 1 = (i : Int) := by omega
      rw [hcast]
      have hilt : (i : Int) < (ws.length : Int) := by omega
      have hw1 := IntWalk.i64_in ((i : Int) - 1) (by omega)
      by_cases hq : m = (k : Int)
      · have hq' : (m == (k : Int)) = true := by simpa using hq
        rw [if_pos hq] at hnx
        have HN := Lib.hid hnx
        clear hnx hx hm' hq hcast
        go_wp2_with fail
        go_ret
        exact ⟨by rw [← HR.out, HN.out]; rfl, bel_new (Below.refl _ _) _⟩
      · have hq' : (m == (k : Int)) = false := by simpa using hq
        rw [if_neg hq] at hnx
        have HN := Lib.hid hnx
        clear hnx hx hm' hq hcast
        go_wp2_with fail
        go_round
        case rel => exact ⟨i, by omega, rfl, by rw [← HR.out, HN.out]⟩
        case measure => simp [intOf]
    · obtain rfl : j = 0 := by omega
      have hc0 : ((0 : Nat) : Int) - 1 = -1 := rfl
      rw [hc0]
      clear hc0
      go_wp2_with fail
      go_ret
      exact ⟨by rw [← HR.out]; rfl, bel_new (Below.refl _ _) _⟩

def readPost (d : Dk) (n : Int) (w : World) (r : Ending) (w' : World) : Prop := r = .returned (.tuple #[.string (readD d n).1, .bool (readD d n).2]) ∧ Below w.heap.size w w'
theorem readD_yes {d : Dk} {n : Int} (h : DkOk d) (hg : d.gone = false) (hn : 0 ≤ n ∧ n ≤ 63) : readD d n = (latest d n, true) := if_pos ⟨h, hg, hn⟩
theorem readD_no {d : Dk} {n : Int} (h : ¬ (DkOk d ∧ d.gone = false ∧ 0 ≤ n ∧ n ≤ 63)) : readD d n = (none8, false) := if_neg h
theorem readPost.no {d : Dk} {n : Int} {w w' : World} (h : ¬ (DkOk d ∧ d.gone = false ∧ 0 ≤ n ∧ n ≤ 63)) (hb : Below w.heap.size w w') : readPost d n w (.returned (.tuple #[.string ⟨#[]⟩, .bool false])) w' := by
  refine ⟨?_, hb⟩
  rw [readD_no h]
  rfl
theorem readPost.yes {d : Dk} {n : Int} {w w' : World} (h : DkOk d) (hg : d.gone = false) (hn : 0 ≤ n ∧ n ≤ 63) (hb : Below w.heap.size w w') : readPost d n w (.returned (.tuple #[.string (latest d n), .bool true])) w' := by
  refine ⟨?_, hb⟩
  rw [readD_yes h hg hn]

end Go.Proofs.Ytndckncoipkhaaa
