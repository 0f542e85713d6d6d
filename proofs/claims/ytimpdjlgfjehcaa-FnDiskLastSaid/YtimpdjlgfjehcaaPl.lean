/-
  Contracts whose results are said by name; new disks and disks that are gone, as lists.
-/
import Derived.Test.YtimpdjlgfjehcaaOrdP
import Derived.Test.YtimpdjlgfjehcaaRdI
import Derived.Test.YtimpdjlgfjehcaaNew
import Derived.Test.YtimpdjlgfjehcaaPf
namespace Go.Proofs.Ytimpdjlgfjehcaa
open Go.RowKit

def Told (v : Value) (w : World) (r : Ending) (w' : World) : Prop := r = .returned v ∧ Below w.heap.size w w'
theorem impl_readAt (A B : Option Addr) (c e : Nat) (d : Dk) (n : Int) (w : World) (hd : Bulk d) (hA : DkAt w A B d) {s : ByteArray} {b : Bool} (h : readD d n = (s, b)) :
    Calls Try.prog 18 #[.agg #[.slice A d.cells.length c, .slice B d.waits.length e, .bool d.gone], .int .i64 n] w (Told (.tuple #[.string s, .bool b]) w) := by
  refine (impl_read A B c e d n w hd hA).mono fun r w' hr => ?_
  obtain ⟨he, hb⟩ := hr
  rw [h] at he
  exact ⟨he, hb⟩
theorem impl_okAt (A B : Option Addr) (c e : Nat) (d : Dk) (w : World) (hd : Bulk d) (hA : DkAt w A B d) {b : Bool} (h : okD d = b) :
    Calls Try.prog 10 #[.agg #[.slice A d.cells.length c, .slice B d.waits.length e, .bool d.gone]] w (Told (.bool b) w) := by
  refine (impl_dok A B c e d w hd hA).mono fun r w' hr => ?_
  obtain ⟨he, hb⟩ := hr
  rw [h] at he
  exact ⟨he, hb⟩
theorem spec_okAt (A B : Option Addr) (c e : Nat) (d : Dk) (w : World) (hd : Bulk d) (hA : DkAt w A B d) {b : Bool} (h : okD d = b) :
    Calls Try.prog 27 #[.agg #[.slice A d.cells.length c, .slice B d.waits.length e, .bool d.gone]] w (Told (.bool b) w) := by
  refine (spec_ok A B c e d w hd hA).mono fun r w' hr => ?_
  obtain ⟨he, hb⟩ := hr
  rw [h] at he
  exact ⟨he, hb⟩

theorem blank_all {s : ByteArray} (h : s ∈ blank) : s.size = 0 := by rw [List.eq_of_mem_replicate h]; rfl
theorem new_valid : DkOk newD := ⟨List.length_replicate, Nat.zero_le _, fun e => (by cases e), fun s hs => (by rw [blank_all hs]; omega), fun x hx => (by cases hx)⟩
theorem lose_valid : DkOk loseD := ⟨List.length_replicate, Nat.zero_le _, fun _ => ⟨rfl, fun s hs => blank_all hs⟩, fun s hs => (by rw [blank_all hs]; omega), fun x hx => (by cases hx)⟩
theorem blank_getDn (k : Nat) : blank.getD k none8 = none8 := by
  unfold blank
  rw [List.getD_eq_getElem?_getD, List.getElem?_replicate]
  split <;> rfl
theorem new_read (k : Int) (h : 0 ≤ k ∧ k ≤ 63) : readD newD k = (none8, true) := by
  rw [readD_yes new_valid rfl h]
  exact Prod.ext (blank_getDn _) rfl
theorem lose_read (k : Int) : readD loseD k = (none8, false) := readD_no (fun h => by have := h.2.1; cases this)
theorem lose_write (k : Int) (t : ByteArray) : writeD loseD k t = (loseD, false) := writeD_no lose_valid (fun h => by have := h.1; cases this)
theorem none8_list : none8.toList = [] := by simp [none8]
theorem pf_texts2 (A B : Option Addr) (ca cb : Nat) (ss tt : List ByteArray) (w : World) (he : ss = tt) (hn : ss.length ≤ 1048576) (hA : Lies w A (strCells ss)) (hB : Lies w B (strCells tt)) :
    Calls Try.prog 11 #[.slice A ss.length ca, .slice B tt.length cb] w (Told (.bool true) w) := by
  subst he
  exact pf_texts A B ca cb ss w hn hA hB
theorem write_cells {d : Dk} {n : Int} {t : ByteArray} (h : (writeD d n t).2 = true) : (writeD d n t).1.cells = d.cells ∧ (writeD d n t).1.waits.length = d.waits.length + 1 := by
  rw [write_is h]
  exact ⟨rfl, by simp⟩
theorem spoil_cell {d : Dk} {n : Int} {t : ByteArray} (h : (spoilD d n t).2 = true) : (spoilD d n t).1.cells.getD n.toNat none8 = t ∧ (spoilD d n t).1.cells.length = 64 ∧ d.cells.length = 64 ∧ 0 ≤ n ∧ n ≤ 63 := by
  obtain ⟨hv, tk⟩ := spoil_told h
  have h64 := hv.1
  refine ⟨?_, (spoil_valid h).1, h64, tk.2.1, tk.2.2.1⟩
  rw [spoilD_yes hv tk, List.getD_eq_getElem?_getD]
  show ((List.set _ _ _)[_]?).getD none8 = _
  rw [List.getElem?_set_self (by have := tk.2.1; have := tk.2.2.1; omega)]
  rfl
/-- Whether one of the first writes that wait is to a cell. -/
def wtd (ws : List Wt) (i : Int) (j : Nat) : Bool := (ws.take j).any fun x => decide (x.num = i)
theorem wtd_next (ws : List Wt) (i : Int) (j : Nat) (h : j < ws.length) : wtd ws i (j + 1) = (wtd ws i j || decide (ws[j].num = i)) := by
  unfold wtd
  rw [List.take_succ_eq_append_getElem h, List.any_append, List.any_cons, List.any_nil, Bool.or_false]
theorem wtd_none {ws : List Wt} {i : Int} (h : wtd ws i ws.length = false) : ∀ x ∈ ws, x.num ≠ i := fun x hx e => by
  unfold wtd at h
  rw [List.take_length, List.any_eq_false] at h
  exact h x hx (by simp [e])
theorem crash_cell {d : Dk} (h : DkOk d) {mask tear : Int} (hm : 0 ≤ mask) (n : Nat) (hw : wtd d.waits (n : Int) d.waits.length = false) : (crashD d mask tear).cells.getD n none8 = d.cells.getD n none8 := by
  rw [crashD_yes h hm]
  refine st_stays d.waits mask tear d.cells n (fun x hx e => wtd_none hw x hx ?_) _
  have := (h.2.2.2.2 x hx).1
  omega
theorem crash_two {d : Dk} (h : DkOk d) (mask tear mask2 tear2 : Int) (hm : 0 ≤ mask) (h2 : 0 ≤ mask2) : crashD (crashD d mask tear) mask2 tear2 = crashD d mask tear := by
  rw [crashD_yes h hm]
  exact crash_again h _ _ _ _ h2
end Go.Proofs.Ytimpdjlgfjehcaa
