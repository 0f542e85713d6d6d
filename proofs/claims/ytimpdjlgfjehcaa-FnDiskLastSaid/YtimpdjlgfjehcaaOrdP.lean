/-
  Writes, failures, reads and spoilt cells of a disk, as lists.
-/
import Derived.Test.YtimpdjlgfjehcaaFlP
import Derived.Test.YtimpdjlgfjehcaaWr
import Derived.Test.YtimpdjlgfjehcaaRd
import Derived.Test.YtimpdjlgfjehcaaSpI
namespace Go.Proofs.Ytimpdjlgfjehcaa
open Go.RowKit

theorem st_app (ws vs : List Wt) (m t : Int) (cs : List ByteArray) (k : Nat) (h : k ≤ ws.length) : st (ws ++ vs) m t cs k = st ws m t cs k := by
  induction k with
  | zero => rfl
  | succ k ih =>
    rw [st_next _ _ _ _ _ (by rw [List.length_append]; omega), st_next _ _ _ _ _ (by omega), ih (by omega), List.getElem_append_left (by omega)]
theorem st_snoc (ws : List Wt) (x : Wt) (m t : Int) (cs : List ByteArray) : st (ws ++ [x]) m t cs (ws.length + 1) = stp m t ws.length x (st ws m t cs ws.length) := by
  rw [st_next _ _ _ _ _ (by simp), st_app _ _ _ _ _ _ (Nat.le_refl _)]
  simp
theorem bit_none (i : Nat) : bitM 0 i = false := by simp [bitM]
theorem stp_all (t : Int) (i : Nat) (x : Wt) (cs : List ByteArray) : stp 1152921504606846975 t i x cs = cs.set x.num.toNat x.text := by
  rw [stp, if_pos (bit_all i)]
theorem stp_miss (i : Nat) (x : Wt) (cs : List ByteArray) : stp 0 (-1) i x cs = cs := by
  rw [stp, if_neg (by rw [bit_none]; decide), if_neg (by omega)]
theorem st_none (ws : List Wt) (cs : List ByteArray) (k : Nat) : st ws 0 (-1) cs k = cs := by
  induction k with
  | zero => rfl
  | succ k ih =>
    unfold st
    split
    · rw [stp_miss, ih]
    · exact ih
theorem crash_none {d : Dk} (h : DkOk d) : crashD d 0 (-1) = ⟨d.cells, [], d.gone⟩ := by
  rw [crashD_yes h (by decide), st_none]

theorem write_told {d : Dk} {n : Int} {t : ByteArray} (h : (writeD d n t).2 = true) : DkOk d ∧ (d.gone = false ∧ 0 ≤ n ∧ n ≤ 63 ∧ t.size ≤ 200 ∧ d.waits.length < 120) := by
  by_cases h1 : DkOk d
  · by_cases h2 : d.gone = false ∧ 0 ≤ n ∧ n ≤ 63 ∧ t.size ≤ 200 ∧ d.waits.length < 120
    · exact ⟨h1, h2⟩
    · rw [writeD_no h1 h2] at h; exact absurd h (by simp)
  · rw [writeD_bad h1] at h; exact absurd h (by simp)
theorem write_is {d : Dk} {n : Int} {t : ByteArray} (h : (writeD d n t).2 = true) : writeD d n t = (⟨d.cells, d.waits ++ [⟨n, t⟩], d.gone⟩, true) := writeD_yes (write_told h).1 (write_told h).2
theorem write_valid {d : Dk} {n : Int} {t : ByteArray} (h : (writeD d n t).2 = true) : DkOk (writeD d n t).1 := by
  rw [write_is h]
  obtain ⟨⟨h64, h120, hg, hs, hw⟩, g, n0, n1, ts, wl⟩ := write_told h
  refine ⟨h64, by simp only [List.length_append, List.length_singleton]; omega, fun e => ?_, hs, fun x hx => ?_⟩
  · have e' : d.gone = true := e
    rw [g] at e'
    exact absurd e' (by simp)
  · rcases List.mem_append.1 hx with h1 | h1
    · exact hw x h1
    · obtain rfl : x = ⟨n, t⟩ := by simpa using h1
      exact ⟨n0, n1, ts⟩
theorem bulk_write {d : Dk} (hd : Bulk d) (n : Int) (t : ByteArray) : Bulk (writeD d n t).1 := by
  by_cases h : (writeD d n t).2 = true
  · have hv := write_valid h
    obtain ⟨h64, h120, hg, hs, hw⟩ := hv
    exact ⟨by omega, by omega, fun s hs' => by have := hs s hs'; unfold maxLen; omega, fun x hx => by have := (hw x hx).2.2; unfold maxLen; omega⟩
  · by_cases h1 : DkOk d
    · by_cases h2 : d.gone = false ∧ 0 ≤ n ∧ n ≤ 63 ∧ t.size ≤ 200 ∧ d.waits.length < 120
      · rw [writeD_yes h1 h2] at h; exact absurd rfl h
      · rw [writeD_no h1 h2]; exact hd
    · rw [writeD_bad h1]
      exact ⟨Nat.zero_le _, Nat.zero_le _, (fun s hs => by cases hs), (fun x hx => by cases hx)⟩
theorem valid_bulk {d : Dk} (h : DkOk d) : Bulk d := by
  obtain ⟨h64, h120, hg, hs, hw⟩ := h
  exact ⟨by omega, by omega, fun s hs' => by have := hs s hs'; unfold maxLen; omega, fun x hx => by have := (hw x hx).2.2; unfold maxLen; omega⟩
theorem bulk_none : Bulk dk0 := ⟨Nat.zero_le _, Nat.zero_le _, (fun s hs => by cases hs), (fun x hx => by cases hx)⟩
theorem bulk_crash {d : Dk} (m t : Int) : Bulk (crashD d m t) := by
  by_cases h : DkOk d ∧ 0 ≤ m
  · rw [crashD_yes h.1 h.2]
    exact valid_bulk (crash_valid h.1 m t)
  · rw [crashD_no h]
    exact bulk_none

theorem flush_write {d : Dk} {n : Int} {t : ByteArray} (h : (writeD d n t).2 = true) : flushD (writeD d n t).1 = ⟨(flushD d).cells.set n.toNat t, [], d.gone⟩ := by
  have hv := write_valid h
  rw [flushD_yes hv, flushD_yes (write_told h).1, write_is h]
  show Dk.mk (st (d.waits ++ [Wt.mk n t]) _ _ d.cells (d.waits ++ [Wt.mk n t]).length) [] d.gone = _
  rw [List.length_append, List.length_singleton, st_snoc, stp_all]
theorem crash_write {d : Dk} {n : Int} {t : ByteArray} (h : (writeD d n t).2 = true) : crashD (writeD d n t).1 0 (-1) = ⟨d.cells, [], d.gone⟩ := by
  rw [crash_none (write_valid h), write_is h]
/-- Two writes to unlike cells, in either order. -/
theorem order_flush {d : Dk} {n m : Int} {t u : ByteArray} (h1 : (writeD d n t).2 = true) (h2 : (writeD (writeD d n t).1 m u).2 = true) (h3 : (writeD d m u).2 = true) (h4 : (writeD (writeD d m u).1 n t).2 = true) (hne : n ≠ m) :
    flushD (writeD (writeD d n t).1 m u).1 = flushD (writeD (writeD d m u).1 n t).1 := by
  have a := (write_told h1).2
  have b := (write_told h3).2
  rw [flush_write h2, flush_write h4, flush_write h1, flush_write h3, write_is h1, write_is h3]
  show Dk.mk _ [] d.gone = Dk.mk _ [] d.gone
  rw [List.set_comm _ _ (by omega)]
theorem order_crash {d : Dk} {n m : Int} {t u : ByteArray} (h1 : (writeD d n t).2 = true) (h2 : (writeD (writeD d n t).1 m u).2 = true) (h3 : (writeD d m u).2 = true) (h4 : (writeD (writeD d m u).1 n t).2 = true) :
    crashD (writeD (writeD d n t).1 m u).1 0 (-1) = crashD (writeD (writeD d m u).1 n t).1 0 (-1) := by
  rw [crash_write h2, crash_write h4, write_is h1, write_is h3]

/-- A write onto a disk that was flushed, torn. -/
theorem torn_cells {d : Dk} {n : Int} {t : ByteArray} (h : (writeD (flushD d) n t).2 = true) : crashD (writeD (flushD d) n t).1 0 0 = ⟨(flushD d).cells.set n.toNat (torn ((flushD d).cells.getD n.toNat none8) t), [], (flushD d).gone⟩ := by
  rw [crashD_yes (write_valid h) (by decide), write_is h, flush_waits]
  rfl
theorem torn_cell {d : Dk} {n : Int} {t : ByteArray} (h : (writeD (flushD d) n t).2 = true) : (crashD (writeD (flushD d) n t).1 0 0).cells.getD n.toNat none8 = torn ((flushD d).cells.getD n.toNat none8) t := by
  rw [torn_cells h]
  obtain ⟨hv, _, n0, n1, _⟩ := write_told h
  have := hv.1
  rw [List.getD_eq_getElem?_getD]
  show ((List.set _ _ _)[_]?).getD none8 = _
  rw [List.getElem?_set_self (by omega)]
  rfl

/-- What is read is what the flush leaves. -/
theorem rd_st (ws : List Wt) (hw : ∀ x ∈ ws, 0 ≤ x.num) (t : Int) (cs : List ByteArray) (n : Int) (h0 : 0 ≤ n) (hn : n.toNat < cs.length) (k : Nat) : rd ws n (cs.getD n.toNat none8) k = (st ws 1152921504606846975 t cs k).getD n.toNat none8 := by
  induction k with
  | zero => rfl
  | succ k ih =>
    unfold rd st
    cases e : ws[k]? with
    | none => simpa using ih
    | some x =>
      have hx := hw x (List.mem_of_getElem? e)
      show (if x.num = n then x.text else rd ws n _ k) = (stp _ _ _ _ _).getD _ _
      rw [stp_all]
      by_cases h : x.num = n
      · rw [if_pos h, h, List.getD_eq_getElem?_getD, List.getElem?_set_self (by rw [st_len]; exact hn)]
        rfl
      · rw [if_neg h, ih, List.getD_eq_getElem?_getD, List.getD_eq_getElem?_getD, List.getElem?_set_ne (by omega)]
theorem read_flush {d : Dk} (h : DkOk d) {n : Int} (h0 : 0 ≤ n) (h1 : n ≤ 63) : latest d n = (flushD d).cells.getD n.toNat none8 := by
  rw [flushD_yes h]
  exact rd_st _ (fun x hx => (h.2.2.2.2 x hx).1) _ _ _ h0 (by have := h.1; omega) _
theorem rd_app (ws vs : List Wt) (n : Int) (z : ByteArray) (k : Nat) (h : k ≤ ws.length) : rd (ws ++ vs) n z k = rd ws n z k := by
  induction k with
  | zero => rfl
  | succ k ih =>
    rw [rd_next _ _ _ _ (by rw [List.length_append]; omega), rd_next _ _ _ _ (by omega), ih (by omega), List.getElem_append_left (by omega)]
/-- What is read behind a write. -/
theorem read_write {d : Dk} {n : Int} {t : ByteArray} (h : (writeD d n t).2 = true) (k : Int) (h0 : 0 ≤ k) (h1 : k ≤ 63) : readD (writeD d n t).1 k = (if k = n then t else latest d k, true) := by
  have hv := write_valid h
  have hg := (write_told h).2.1
  rw [readD_yes hv (by rw [write_is h]; exact hg) ⟨h0, h1⟩, write_is h]
  refine Prod.ext ?_ rfl
  show rd (d.waits ++ [Wt.mk n t]) k _ (d.waits ++ [Wt.mk n t]).length = _
  rw [List.length_append, List.length_singleton, rd_next _ _ _ _ (by simp), rd_app _ _ _ _ _ (Nat.le_refl _)]
  simp only [List.getElem_append_right (Nat.le_refl _), Nat.sub_self, List.getElem_singleton]
  by_cases e : n = k
  · rw [if_pos e, if_pos e.symm]
  · rw [if_neg e, if_neg (fun x => e x.symm)]
    rfl
theorem read_told {d : Dk} {n : Int} (h : (readD d n).2 = true) : DkOk d ∧ d.gone = false ∧ 0 ≤ n ∧ n ≤ 63 := by
  by_cases h1 : DkOk d ∧ d.gone = false ∧ 0 ≤ n ∧ n ≤ 63
  · exact h1
  · rw [readD_no h1] at h; exact absurd h (by simp)

/-- A cell that no write waits for stays. -/
theorem st_stays (ws : List Wt) (m t : Int) (cs : List ByteArray) (n : Nat) (hw : ∀ x ∈ ws, x.num.toNat ≠ n) (k : Nat) : (st ws m t cs k).getD n none8 = cs.getD n none8 := by
  induction k with
  | zero => rfl
  | succ k ih =>
    unfold st
    cases e : ws[k]? with
    | none => simpa using ih
    | some x =>
      have hx := hw x (List.mem_of_getElem? e)
      show (stp _ _ _ _ _).getD _ _ = _
      rw [← ih]
      unfold stp
      split
      · rw [List.getD_eq_getElem?_getD, List.getD_eq_getElem?_getD, List.getElem?_set_ne hx]
      · split
        · rw [List.getD_eq_getElem?_getD, List.getElem?_set_ne hx, List.getD_eq_getElem?_getD]
        · rfl

/-- A spoilt cell, put right. -/
theorem spoil_told {d : Dk} {n : Int} {t : ByteArray} (h : (spoilD d n t).2 = true) : DkOk d ∧ Take d n t := by
  by_cases h1 : DkOk d ∧ Take d n t
  · exact h1
  · rw [spoilD_no h1] at h; exact absurd h (by simp)
theorem set_getD (cs : List ByteArray) (n : Nat) (t : ByteArray) (h : n < cs.length) : (cs.set n t).set n (cs.getD n none8) = cs := by
  rw [List.set_set, List.getD_eq_getElem?_getD, List.getElem?_eq_getElem h]
  exact List.set_getElem_self h
theorem spoil_valid {d : Dk} {n : Int} {t : ByteArray} (h : (spoilD d n t).2 = true) : DkOk (spoilD d n t).1 := by
  obtain ⟨hv, tk⟩ := spoil_told h
  rw [spoilD_yes hv tk]
  obtain ⟨h64, h120, hg, hs, hw⟩ := hv
  refine ⟨by rw [List.length_set]; exact h64, h120, fun e => ?_, small_set hs _ tk.2.2.2, hw⟩
  have e' : d.gone = true := e
  rw [tk.1] at e'
  exact absurd e' (by simp)
theorem spoil_back {d : Dk} {n : Int} {t : ByteArray} (h : (spoilD d n t).2 = true) : spoilD (spoilD d n t).1 n (d.cells.getD n.toNat none8) = (d, true) := by
  obtain ⟨hv, tk⟩ := spoil_told h
  have hv2 := spoil_valid h
  rw [spoilD_yes hv tk] at hv2 ⊢
  have hl := hv.1
  rw [spoilD_yes hv2 ⟨tk.1, tk.2.1, tk.2.2.1, small_getD hv.2.2.2.1 _⟩]
  show (Dk.mk ((d.cells.set n.toNat t).set n.toNat _) d.waits d.gone, true) = _
  rw [set_getD _ _ _ (by have := tk.2.1; have := tk.2.2.1; omega)]
theorem bulk_spoil {d : Dk} (n : Int) (t : ByteArray) : Bulk (spoilD d n t).1 := by
  by_cases h : DkOk d ∧ Take d n t
  · exact valid_bulk (spoil_valid (by rw [spoilD_yes h.1 h.2]))
  · rw [spoilD_no h]
    exact bulk_none
end Go.Proofs.Ytimpdjlgfjehcaa
