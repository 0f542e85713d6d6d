/-
  The program's exclusive or of two texts.
-/
import Derived.Test.YtndckncoipkhaaaCtOthS
import Derived.Lib.BufferWrite
namespace Go.Proofs.Ytndckncoipkhaaa.Cut
open Go.RowKit

/-- copy from a text of whatever length into a row. -/
theorem run_copy_cut {P : Program} (w : World) (dT sT ty elem : TypeId) (g dLen dCap : Nat) (s : ByteArray) (cur : Array Value) (t : TypeId)
    (hu : P.underlying dT = some (.slice elem)) (hs : (P.info? elem).map (·.size) = some 1) (hg : w.heap[g]? = some (.cells cur t (0, 0))) (hfit : dLen ≤ cur.size) :
    (Builtin.copy_ #[dT, sT] ty #[.slice (some ⟨g, 0, none⟩) dLen dCap, .string s]).run P w =
      .ok (goInt (Nat.min s.size dLen)) (w.setRow g ((cellsOf s.data.toList).take (Nat.min s.size dLen) ++ cur.toList.drop (Nat.min s.size dLen)).toArray) := by
  obtain ⟨m, hm⟩ : ∃ m, m = Nat.min s.size dLen := ⟨_, rfl⟩
  have hms : m ≤ s.size := by rw [hm]; exact Nat.min_le_left _ _
  have hmd : m ≤ dLen := by rw [hm]; exact Nat.min_le_right _ _
  have hsz : s.data.toList.length = s.size := by rw [Array.length_toList]; rfl
  have hlen : ((cellsOf s.data.toList).take m).length = m := by rw [List.length_take, cellsOf_len, hsz, Nat.min_eq_left hms]
  have hone : ∀ v ∈ (cellsOf s.data.toList).take m, v.oneCell' = true := fun v hv => by
    obtain ⟨c, _, rfl⟩ := List.mem_map.1 (List.mem_of_mem_take hv)
    rfl
  have hst := run_storeCells_at P g 0 t ((cellsOf s.data.toList).take m) 0 cur w hg (by rw [hlen]; omega) hone
  rw [hlen] at hst
  simp only [Nat.add_zero, Nat.zero_add, List.take_zero, List.nil_append] at hst
  rw [← hm]
  cases hq : P.info? elem with
  | none => simp [hq] at hs
  | some i =>
    have htk : List.take m (List.map (fun b : UInt8 => Value.int IntKind.u8 (b.toNat : Int)) s.data.toList) = (cellsOf s.data.toList).take m := rfl
    simp [Builtin.copy_, run_underlying hu, Builtin.lenOf, Builtin.firstCells, sizeOf, typeInfo, hq]
    rw [← hm, htk, hst]
    rfl

theorem own_copy {W : World} {base g n cap : Nat} {l : List UInt8} (h : W.ownsRow base 5 1 (.slice (some ⟨g, 0, none⟩) n cap) n (cellsOf l)) (a : ByteArray) :
    ∃ W' : World, (∀ ty, (Builtin.copy_ #[100, 9] ty #[.slice (some ⟨g, 0, none⟩) n cap, .string a]).run Try.prog W = .ok (goInt (Nat.min a.size n)) W') ∧
      W'.ownsRow base 5 1 (.slice (some ⟨g, 0, none⟩) n cap) n (cellsOf (a.data.toList.take (Nat.min a.size n) ++ l.drop (Nat.min a.size n))) ∧ W.grownBy W' (some g) := by
  obtain ⟨m, hm⟩ : ∃ m, m = Nat.min a.size n := ⟨_, rfl⟩
  have hma : m ≤ a.size := by rw [hm]; exact Nat.min_le_left _ _
  have hmn : m ≤ n := by rw [hm]; exact Nat.min_le_right _ _
  have hal : a.data.toList.length = a.size := by rw [Array.length_toList]; rfl
  obtain ⟨hl, h2⟩ := h
  rw [cellsOf_len, Nat.mul_one] at hl
  rcases h2 with ⟨e, _⟩ | ⟨g', cap', cur, e, hb, hg, hnc, hcm, hcs, htk⟩
  · cases e
  cases e
  have hr := fun ty => run_copy_cut (P := Try.prog) W 100 9 ty 5 g n cap a cur 5 Try.underlying100 (by kernel_rfl) hg (by omega)
  have hx : ((cellsOf a.data.toList).take m ++ cur.toList.drop m).length = cur.size := by
    have hct : cur.toList.length = cur.size := Array.length_toList
    rw [List.length_append, List.length_take, cellsOf_len, List.length_drop, hal, Nat.min_eq_left hma, hct]; omega
  refine ⟨_, hr, ?_, ⟨rfl, rfl, rfl, by simp [World.setRow], fun k hk hne => setRow_other W g k _ (fun e => hne (by rw [e]))⟩⟩
  rw [← hm]
  refine ⟨by rw [cellsOf_len, List.length_append, List.length_take, List.length_drop, hal, Nat.min_eq_left hma, hl]; omega, .inr ⟨g, cap, _, rfl, hb, setRow_heap W g cur _ 5 _ hg, hnc, hcm, ?_, ?_⟩⟩
  · rw [List.size_toArray, hx, hcs]
  · rw [Nat.mul_one] at htk ⊢
    have ht : cur.toList.take n = cellsOf l := htk
    show List.take n (List.take m (cellsOf a.data.toList) ++ List.drop m cur.toList) = _
    have hk : (List.take m (cellsOf a.data.toList)).length = m := by rw [List.length_take, cellsOf_len, hal, Nat.min_eq_left hma]
    rw [List.take_append, hk, List.take_of_length_le (by omega), cellsOf_app]
    have e1 : cellsOf (List.take m a.data.toList) = List.take m (cellsOf a.data.toList) := by unfold cellsOf; rw [List.map_take]
    have e2 : cellsOf (List.drop m l) = List.drop m (cellsOf l) := by unfold cellsOf; rw [List.map_drop]
    rw [e1, e2, ← ht, List.drop_take]

/-- The first k bytes mixed, the others as they were copied. -/
def stepL (a b : List UInt8) (n k : Nat) : List UInt8 := (List.range n).map fun i => if i < k then a.getD i 0 ^^^ b.getD i 0 else a.getD i 0
theorem stepL_len (a b : List UInt8) (n k : Nat) : (stepL a b n k).length = n := by simp [stepL]
theorem stepL_at (a b : List UInt8) (n k i : Nat) (h : i < n) : (stepL a b n k)[i]? = some (if i < k then a.getD i 0 ^^^ b.getD i 0 else a.getD i 0) := by
  simp [stepL, h]
theorem stepL_zero (a b : List UInt8) (n : Nat) (z : List UInt8) (hz : z = List.replicate n 0) : a.take (Nat.min a.length n) ++ z.drop (Nat.min a.length n) = stepL a b n 0 := by
  subst hz
  apply List.ext_getElem?
  intro i
  by_cases hi : i < n
  · rw [stepL_at _ _ _ _ _ hi, if_neg (by omega)]
    by_cases ha : i < a.length
    · rw [List.getElem?_append_left (by rw [List.length_take]; have : Nat.min a.length n = min a.length n := rfl; omega), List.getElem?_take, if_pos (by have : Nat.min a.length n = min a.length n := rfl; omega), List.getD_eq_getElem?_getD, List.getElem?_eq_getElem ha]
      rfl
    · have hm : Nat.min a.length n = a.length := Nat.min_eq_left (by omega)
      rw [hm, List.take_length, List.getElem?_append_right (by omega), List.getElem?_drop, List.getElem?_replicate, if_pos (by omega), past_getD a i (by omega)]
  · rw [List.getElem?_eq_none (by rw [List.length_append, List.length_take, List.length_drop, List.length_replicate]; have : Nat.min a.length n = min a.length n := rfl; omega), List.getElem?_eq_none (by rw [stepL_len]; omega)]
theorem stepL_set (a b : List UInt8) (n k : Nat) (h : k < n) : (cellsOf (stepL a b n k)).set k (.int .u8 ((a.getD k 0 ^^^ b.getD k 0).toNat : Int)) = cellsOf (stepL a b n (k + 1)) := by
  unfold cellsOf
  rw [← List.map_set]
  congr 1
  apply List.ext_getElem?
  intro i
  by_cases hi : i < n
  · rw [stepL_at _ _ _ _ _ hi]
    by_cases e : i = k
    · subst e
      rw [List.getElem?_set_self (by rw [stepL_len]; exact h), if_pos (by omega)]
    · rw [List.getElem?_set_ne (by omega), stepL_at _ _ _ _ _ hi]
      by_cases h2 : i < k
      · rw [if_pos h2, if_pos (by omega)]
      · rw [if_neg h2, if_neg (by omega)]
  · rw [List.getElem?_eq_none (by rw [List.length_set, stepL_len]; omega), List.getElem?_eq_none (by rw [stepL_len]; omega)]
theorem stepL_all (a b : List UInt8) (n : Nat) : stepL a b n (min n b.length) = mixL a b n := by
  apply List.ext_getElem?
  intro i
  by_cases hi : i < n
  · rw [stepL_at _ _ _ _ _ hi, List.getElem?_eq_getElem (by rw [mixL_len]; exact hi), mixL_get]
    by_cases h2 : i < b.length
    · rw [if_pos (by omega)]
    · rw [if_neg (by omega), past_getD b i (by omega), UInt8.xor_zero]
  · rw [List.getElem?_eq_none (by rw [stepL_len]; omega), List.getElem?_eq_none (by rw [mixL_len]; omega)]
end Go.Proofs.Ytndckncoipkhaaa.Cut
