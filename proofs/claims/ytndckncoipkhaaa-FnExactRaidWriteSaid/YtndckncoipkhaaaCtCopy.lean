/-
  A law's copy of a disk.
-/
import Derived.Test.YtndckncoipkhaaaCtSz
namespace Go.Proofs.Ytndckncoipkhaaa.Cut
open Go.RowKit

theorem Try.info9 : (Try.prog.info? 9).map (fun i => (i.zero, i.size, i.bytes)) = some (some (.string ⟨#[]⟩), 1, 16) := by kernel_rfl

theorem made_strs (n : Nat) : (madeCells (Value.cells (.string ⟨#[]⟩)) (n * 1)).toList = List.replicate n (Value.string ⟨#[]⟩) := by
  apply List.ext_getElem
  · simp [madeCells]
  · intro i h1 h2
    simp [madeCells, Value.cells, Nat.mod_one]
theorem set_next (ss : List ByteArray) (k m : Nat) (h : k < ss.length) (hm : ss.length - k = m + 1) :
    (strCells (ss.take k) ++ List.replicate (ss.length - k) (Value.string ⟨#[]⟩)).set k (Value.string ss[k]) = strCells (ss.take (k + 1)) ++ List.replicate (ss.length - (k + 1)) (Value.string ⟨#[]⟩) := by
  have hl : (strCells (ss.take k)).length = k := by simp [strCells]; omega
  rw [hm, show ss.length - (k + 1) = m by omega, List.set_append_right _ _ (by omega), hl, Nat.sub_self, List.replicate_succ, List.set_cons_zero,
    List.take_succ_eq_append_getElem h]
  unfold strCells
  rw [List.map_append, List.append_assoc]
  rfl

def ToPost (ss : List ByteArray) (w : World) (e : Ending) (w' : World) : Prop :=
  ∃ g, e = .returned (.slice (some ⟨g, 0, none⟩) ss.length ss.length) ∧ w'.ownsRow w.heap.size 9 1 (.slice (some ⟨g, 0, none⟩) ss.length ss.length) ss.length (strCells ss) ∧ Below w.heap.size w w'

set_option maxHeartbeats 1000000 in
theorem to_strs (A : Option Addr) (cap : Nat) (ss : List ByteArray) (w : World) (hn : ss.length ≤ 1048576) (hA : Lies w A (strCells ss)) :
    Calls Try.prog 111 #[.slice A ss.length cap] w (ToPost ss w) := by
  obtain ⟨i0, hi, hz0, hz1, hz2⟩ := info_parts Try.info9
  go_enter Try.func111, Try.ntmps111
  go_wp2_with (refine wpList_make_full _ rfl _ _ 57 rfl w.heap.size 9 i0 (.string ⟨#[]⟩) 1 Try.underlying57 hi hz0 hz1 _ _ _ _ ss.length rfl rfl rfl rfl (by rw [hz2]; omega) (by unfold maxLen; omega) (Nat.le_refl _) ?_; intro w1 hown hgrow; rw [made_strs] at hown)
  go_loopw [4] (fun i wr => ∃ k : Nat, k ≤ ss.length ∧ i = .int .i64 k ∧ wr.ownsRow w.heap.size 9 1 (.slice (some ⟨w.heap.size, 0, none⟩) ss.length ss.length) ss.length (strCells (ss.take k) ++ List.replicate (ss.length - k) (Value.string ⟨#[]⟩)) ∧ Below w.heap.size w wr) (fun i _ => ss.length - (intOf i).toNat)
  case atStart => exact ⟨0, Nat.zero_le _, rfl, by simpa [strCells] using hown, (Below.refl _ _).grown hgrow (Nat.le_refl _) (fun k e => by cases e)⟩
  case round =>
    obtain ⟨k, hk, rfl, ho, hb⟩ := hrel
    clear hown hgrow
    by_cases hlt : k < ss.length
    · obtain ⟨b, off, rfl, hlb, hck⟩ := (hA.below hb).str k hlt
      have hlen := ho.1
      have hcg : wr.cell? ⟨w.heap.size, k, none⟩ = some ((strCells (ss.take k) ++ List.replicate (ss.length - k) (Value.string ⟨#[]⟩))[k]'(by omega)) := by
        rw [ho.cellAt k (by omega)]
        exact List.getElem?_eq_getElem _
      have hfg := ho.frozenAt k
      obtain ⟨m, hm⟩ : ∃ m, ss.length - k = m + 1 := ⟨ss.length - k - 1, by omega⟩
      have hst := (ho.stored k (.string ss[k])).1
      have hsg := (ho.stored k (.string ss[k])).2
      rw [set_next ss k m hlt hm] at hst
      have B1 : Below w.heap.size w (wr.setCell ⟨w.heap.size, k, none⟩ (.string ss[k])) := hb.setCell (p := ⟨w.heap.size, k, none⟩) (Nat.le_refl _) _
      obtain ⟨y, hy⟩ : ∃ y, y = (strCells (ss.take k) ++ List.replicate (ss.length - k) (Value.string ⟨#[]⟩))[k]'(by omega) := ⟨_, rfl⟩
      rw [← hy] at hcg
      obtain ⟨x, hx⟩ : ∃ x, x = ss[k] := ⟨_, rfl⟩
      rw [← hx] at hck hst hsg B1
      clear hlen hm hy hx ho hb
      go_wp2
      go_roundw
      case rel => exact ⟨k + 1, by omega, by go_num, hst, B1⟩
      case measure => simp [intOf]; omega
    · have hke : k = ss.length := by omega
      subst hke
      rw [List.take_length, Nat.sub_self] at ho
      simp only [List.replicate_zero, List.append_nil] at ho
      go_wp2
      go_ret
      exact ⟨_, rfl, ho, hb⟩
end Go.Proofs.Ytndckncoipkhaaa.Cut
