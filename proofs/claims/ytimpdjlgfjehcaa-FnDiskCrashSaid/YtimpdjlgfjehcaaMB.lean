/-
  Whether a disk is valid; copies of rows; masks and torn writes.
-/
import Derived.Test.YtimpdjlgfjehcaaMA
import Derived.ChangeKeysEq
import Derived.Deep.WholeRow
import Derived.Laws.Cover3
import Derived.Laws.StructEq
import Derived.Deep.RegionHeldLaw
import Derived.Laws.BitsAllLaws
import Derived.Laws.BitsLemmas

namespace Go.Proofs.Ytimpdjlgfjehcaa
open Go.RowKit

def cellB (n : Int) : Bool := decide (0 ≤ n ∧ n ≤ 63)
theorem cellB_yes {n : Int} (h : 0 ≤ n ∧ n ≤ 63) : cellB n = true := by simp [cellB, h]
theorem cellB_no {n : Int} (h : ¬ (0 ≤ n ∧ n ≤ 63)) : cellB n = false := by simp [cellB]; omega
def fitB (s : ByteArray) : Bool := decide (s.size ≤ 200)

theorem s_in (n : Int) (w : World) : Calls Try.prog 48 #[.int .i64 n, .int .i64 0, .int .i64 63] w fun e w' => e = .returned (.bool (cellB n)) ∧ w = w' := by
  by_cases h : 0 ≤ n ∧ n ≤ 63
  · rw [cellB_yes h]
    obtain ⟨h1, h2⟩ := h
    go_enter Try.func48, Try.ntmps48
    go_wp2
    go_ret
    exact ⟨rfl, rfl⟩
  · rw [cellB_no h]
    by_cases h1 : 0 ≤ n
    · have h2 : ¬ n ≤ 63 := fun k => h ⟨h1, k⟩
      clear h
      go_enter Try.func48, Try.ntmps48
      go_wp2
      go_ret
      exact ⟨rfl, rfl⟩
    · clear h
      go_enter Try.func48, Try.ntmps48
      go_wp2
      go_ret
      exact ⟨rfl, rfl⟩
theorem i_in (n : Int) (w : World) : Calls Try.prog 49 #[.int .i64 n, .int .i64 0, .int .i64 63] w fun e w' => e = .returned (.bool (cellB n)) ∧ w = w' := by
  by_cases h : 0 ≤ n ∧ n ≤ 63
  · rw [cellB_yes h]
    obtain ⟨h1, h2⟩ := h
    go_enter Try.func49, Try.ntmps49
    go_wp2
    go_ret
    exact ⟨rfl, rfl⟩
  · rw [cellB_no h]
    by_cases h1 : 0 ≤ n
    · have h2 : ¬ n ≤ 63 := fun k => h ⟨h1, k⟩
      clear h
      go_enter Try.func49, Try.ntmps49
      go_wp2
      go_ret
      exact ⟨rfl, rfl⟩
    · clear h
      go_enter Try.func49, Try.ntmps49
      go_wp2
      go_ret
      exact ⟨rfl, rfl⟩
theorem s_cell (n : Int) (w : World) : Calls Try.prog 34 #[.int .i64 n] w fun e w' => e = .returned (.bool (cellB n)) ∧ w = w' := by
  have hI := fun w => s_in n w
  go_enter Try.func34, Try.ntmps34
  go_wp2_with (go_at_call 48; refine (hI _).mono ?_; rintro e w' ⟨rfl, rfl⟩)
  go_ret
  exact ⟨rfl, rfl⟩
theorem i_cell (n : Int) (w : World) : Calls Try.prog 36 #[.int .i64 n] w fun e w' => e = .returned (.bool (cellB n)) ∧ w = w' := by
  have hI := fun w => i_in n w
  go_enter Try.func36, Try.ntmps36
  go_wp2_with (go_at_call 49; refine (hI _).mono ?_; rintro e w' ⟨rfl, rfl⟩)
  go_ret
  exact ⟨rfl, rfl⟩
theorem i_fits (s : ByteArray) (w : World) (hs : s.size ≤ maxLen) : Calls Try.prog 42 #[.string s] w fun e w' => e = .returned (.bool (fitB s)) ∧ w = w' := by
  unfold maxLen at hs
  by_cases h : s.size ≤ 200
  · have e : fitB s = true := by simp [fitB, h]
    have h' : (s.size : Int) ≤ 200 := by omega
    rw [e]
    go_enter Try.func42, Try.ntmps42
    go_wp2
    go_ret
    exact ⟨rfl, rfl⟩
  · have e : fitB s = false := by simp [fitB]; omega
    have h' : ¬ (s.size : Int) ≤ 200 := by omega
    rw [e]
    go_enter Try.func42, Try.ntmps42
    go_wp2
    go_ret
    exact ⟨rfl, rfl⟩

theorem str_nil {x : ByteArray} (h : x.size = 0) : x.toList = [] := by
  rw [ByteArray.toList_eq]
  exact List.eq_nil_of_length_eq_zero (by rw [Array.length_toList]; exact h)
theorem str_some {x : ByteArray} (h : ¬ x.size = 0) : ¬ x.toList = [] := fun e => h (by
  rw [ByteArray.toList_eq] at e
  have := congrArg List.length e
  rw [Array.length_toList] at this
  exact this)

structure Bulk (d : Dk) : Prop where
  cells : d.cells.length ≤ 1048576
  waits : d.waits.length ≤ 1048576
  texts : ∀ s ∈ d.cells, s.size ≤ maxLen
  wtexts : ∀ x ∈ d.waits, x.text.size ≤ maxLen

def OkPost (d : Dk) (w : World) (e : Ending) (w' : World) : Prop := e = .returned (.bool (okD d)) ∧ Below w.heap.size w w'
theorem OkPost.no {d : Dk} {w w' : World} (h : ¬ DkOk d) (hb : Below w.heap.size w w') : OkPost d w (.returned (.bool false)) w' := ⟨by rw [okD_no h], hb⟩

set_option maxRecDepth 100000 in
set_option maxHeartbeats 2000000 in
theorem spec_ok_live (A B : Option Addr) (c e : Nat) (cs : List ByteArray) (ws : List Wt) (w : World) (hd : Bulk ⟨cs, ws, false⟩) (h : DkAt w A B ⟨cs, ws, false⟩) (h64 : cs.length = 64) (h120 : ws.length ≤ 120) :
    Calls Try.prog 27 #[.agg #[.slice A cs.length c, .slice B ws.length e, .bool false]] w (OkPost ⟨cs, ws, false⟩ w) := by
  obtain ⟨hn, hm, hs, ht⟩ := hd
  obtain ⟨l1, l2⟩ := h
  have hC := fun n w => s_cell n w
  simp only at hn hm hs ht l1 l2
  have a1 : ((cs.length : Int) != 64) = false := by rw [h64]; rfl
  have a2 : ¬ (120 : Int) < (ws.length : Int) := by omega
  skip
  have H64 := Lib.hid h64
  clear h64
  go_enter Try.func27, Try.ntmps27
  go_wp2
  go_loop [3] (fun i => ∃ k : Nat, k ≤ cs.length ∧ i = .int .i64 k ∧ ∀ j (h : j < cs.length), j < k → cs[j].size ≤ 200) (fun i => cs.length - (intOf i).toNat)
  case atStart => exact ⟨0, Nat.zero_le _, rfl, fun j _ h => absurd h (by omega)⟩
  case round =>
    obtain ⟨k, hk, rfl, hok⟩ := hrel
    have HOK := Lib.hid hok
    clear hok
    by_cases hlt : k < cs.length
    · obtain ⟨b, off, rfl, hlb, hck⟩ := l1.str k hlt
      have hsk := hs cs[k] (by simp)
      unfold maxLen at hsk
      obtain ⟨x, hx⟩ : ∃ x, x = cs[k] := ⟨_, rfl⟩
      rw [← hx] at hck hsk
      have hlt' : (k : Int) < (cs.length : Int) := by omega
      by_cases h2 : x.size ≤ 200
      · have h2' : ¬ (200 : Int) < (x.size : Int) := by omega
        have HX : Hid (cs[k].size ≤ 200) := Lib.hid (by rw [← hx]; exact h2)
        clear hx h2
        go_wp2_with fail
        go_round
        case rel => exact ⟨k + 1, by omega, by go_num, fun j hj hjk => by
          by_cases ej : j = k
          · subst ej; exact HX.out
          · exact HOK.out j hj (by omega)⟩
        case measure => simp [intOf]; omega
      · have h2' : (200 : Int) < (x.size : Int) := by omega
        have hno : ¬ DkOk ⟨cs, ws, false⟩ := fun h => h2 (by rw [hx]; exact h.2.2.2.1 _ (by simp))
        have HN := Lib.hid hno
        clear hno hx h2
        go_wp2_with fail
        go_ret
        exact OkPost.no HN.out (bel_new (Below.refl _ _) _)
    · have hke : k = cs.length := by omega
      subst hke
      go_wp2_with fail
      go_loop [4] (fun i => ∃ k : Nat, k ≤ ws.length ∧ i = .int .i64 k ∧ ∀ j (h : j < ws.length), j < k → WtOk ws[j]) (fun i => ws.length - (intOf i).toNat)
      case atStart => exact ⟨0, Nat.zero_le _, rfl, fun j _ h => absurd h (by omega)⟩
      case round =>
        obtain ⟨k, hk, rfl, hok⟩ := hrel
        have HW := Lib.hid hok
        clear hok
        by_cases hlt : k < ws.length
        · obtain ⟨b, off, rfl, hlb, y0, y1⟩ := l2.wt k hlt
          have hsk := ht ws[k] (by simp)
          unfold maxLen at hsk
          obtain ⟨x, hx⟩ : ∃ x, x = ws[k].text := ⟨_, rfl⟩
          obtain ⟨n, hn'⟩ : ∃ n, n = ws[k].num := ⟨_, rfl⟩
          rw [← hx] at y1 hsk
          rw [← hn'] at y0
          have hlt' : (k : Int) < (ws.length : Int) := by omega
          have hC1 := fun w => hC n w
          clear hC
          by_cases h1 : 0 ≤ n ∧ n ≤ 63
          · rw [cellB_yes h1] at hC1
            by_cases h2 : x.size ≤ 200
            · have h2' : ¬ (200 : Int) < (x.size : Int) := by omega
              have HX : Hid (WtOk ws[k]) := Lib.hid ⟨by rw [← hn']; exact h1.1, by rw [← hn']; exact h1.2, by rw [← hx]; exact h2⟩
              clear hx hn' h1 h2
              go_wp2_with (go_at_call 34; refine (hC1 _).mono ?_; rintro e w' ⟨rfl, rfl⟩)
              go_round
              case rel => exact ⟨k + 1, by omega, by go_num, fun j hj hjk => by
                by_cases ej : j = k
                · subst ej; exact HX.out
                · exact HW.out j hj (by omega)⟩
              case measure => simp [intOf]; omega
            · have h2' : (200 : Int) < (x.size : Int) := by omega
              have hno : ¬ DkOk ⟨cs, ws, false⟩ := fun h => h2 (by rw [hx]; exact (h.2.2.2.2 _ (by simp : ws[k] ∈ ws)).2.2)
              have HN := Lib.hid hno
              clear hno hx hn' h1 h2
              go_wp2_with (go_at_call 34; refine (hC1 _).mono ?_; rintro e w' ⟨rfl, rfl⟩)
              go_ret
              exact OkPost.no HN.out (bel_new (Below.refl _ _) _)
          · rw [cellB_no h1] at hC1
            have hno : ¬ DkOk ⟨cs, ws, false⟩ := fun h => h1 (by have := h.2.2.2.2 _ (by simp : ws[k] ∈ ws); rw [hn']; exact ⟨this.1, this.2.1⟩)
            have HN := Lib.hid hno
            clear hno hx hn' h1
            go_wp2_with (go_at_call 34; refine (hC1 _).mono ?_; rintro e w' ⟨rfl, rfl⟩)
            go_ret
            exact OkPost.no HN.out (bel_new (Below.refl _ _) _)
        · have hke : k = ws.length := by omega
          subst hke
          have hyes : okD ⟨cs, ws, false⟩ = true := by
            rw [okD_iff]
            refine ⟨H64.out, h120, fun h => absurd (show false = true from h) (by decide), fun s hs => ?_, fun x hx => ?_⟩
            · obtain ⟨j, hj, rfl⟩ := List.getElem_of_mem hs
              exact HOK.out j hj hj
            · obtain ⟨j, hj, rfl⟩ := List.getElem_of_mem hx
              exact HW.out j hj hj
          have HY := Lib.hid hyes
          clear hyes
          go_wp2_with fail
          go_ret
          exact ⟨by rw [HY.out]; rfl, bel_new (Below.refl _ _) _⟩

set_option maxRecDepth 100000 in
set_option maxHeartbeats 2000000 in
theorem spec_ok_gone (A B : Option Addr) (c e : Nat) (cs : List ByteArray) (ws : List Wt) (w : World) (hd : Bulk ⟨cs, ws, true⟩) (h : DkAt w A B ⟨cs, ws, true⟩) (h64 : cs.length = 64) (h120 : ws.length ≤ 120) (hz : ws.length = 0) :
    Calls Try.prog 27 #[.agg #[.slice A cs.length c, .slice B ws.length e, .bool true]] w (OkPost ⟨cs, ws, true⟩ w) := by
  obtain ⟨hn, hm, hs, ht⟩ := hd
  obtain ⟨l1, l2⟩ := h
  have hC := fun n w => s_cell n w
  simp only at hn hm hs ht l1 l2
  have a1 : ((cs.length : Int) != 64) = false := by rw [h64]; rfl
  have a2 : ¬ (120 : Int) < (ws.length : Int) := by omega
  have a3 : ¬ (0 : Int) < (ws.length : Int) := by omega
  have HZ := Lib.hid hz
  clear hz
  have H64 := Lib.hid h64
  clear h64
  go_enter Try.func27, Try.ntmps27
  go_wp2
  go_loop [3] (fun i => ∃ k : Nat, k ≤ cs.length ∧ i = .int .i64 k ∧ ∀ j (h : j < cs.length), j < k → cs[j].size ≤ 200 ∧ cs[j].size = 0) (fun i => cs.length - (intOf i).toNat)
  case atStart => exact ⟨0, Nat.zero_le _, rfl, fun j _ h => absurd h (by omega)⟩
  case round =>
    obtain ⟨k, hk, rfl, hok⟩ := hrel
    have HOK := Lib.hid hok
    clear hok
    by_cases hlt : k < cs.length
    · obtain ⟨b, off, rfl, hlb, hck⟩ := l1.str k hlt
      have hsk := hs cs[k] (by simp)
      unfold maxLen at hsk
      obtain ⟨x, hx⟩ : ∃ x, x = cs[k] := ⟨_, rfl⟩
      rw [← hx] at hck hsk
      have hlt' : (k : Int) < (cs.length : Int) := by omega
      by_cases h2 : x.size ≤ 200
      · have h2' : ¬ (200 : Int) < (x.size : Int) := by omega
        by_cases h3 : x.size = 0
        · have h3' : x.toList = [] := str_nil h3
          have h4' : (!x.toList.isEmpty) = false := by rw [h3']; rfl
          have HX : Hid (cs[k].size ≤ 200 ∧ cs[k].size = 0) := Lib.hid ⟨by rw [← hx]; exact h2, by rw [← hx]; exact h3⟩
          clear hx h2 h3
          go_wp2_with fail
          go_round
          case rel => exact ⟨k + 1, by omega, by go_num, fun j hj hjk => by
            by_cases ej : j = k
            · subst ej; exact HX.out
            · exact HOK.out j hj (by omega)⟩
          case measure => simp [intOf]; omega
        · have h3' : ¬ x.toList = [] := str_some h3
          have h4' : (!x.toList.isEmpty) = true := by simpa using h3'
          have hno : ¬ DkOk ⟨cs, ws, true⟩ := fun h => h3 (by rw [hx]; exact (h.2.2.1 rfl).2 _ (by simp))
          have HN := Lib.hid hno
          clear hno hx h2 h3
          go_wp2_with fail
          go_ret
          exact OkPost.no HN.out (bel_new (Below.refl _ _) _)
      · have h2' : (200 : Int) < (x.size : Int) := by omega
        have hno : ¬ DkOk ⟨cs, ws, true⟩ := fun h => h2 (by rw [hx]; exact h.2.2.2.1 _ (by simp))
        have HN := Lib.hid hno
        clear hno hx h2
        go_wp2_with fail
        go_ret
        exact OkPost.no HN.out (bel_new (Below.refl _ _) _)
    · have hke : k = cs.length := by omega
      subst hke
      go_wp2_with fail
      go_loop [4] (fun i => ∃ k : Nat, k ≤ ws.length ∧ i = .int .i64 k ∧ ∀ j (h : j < ws.length), j < k → WtOk ws[j]) (fun i => ws.length - (intOf i).toNat)
      case atStart => exact ⟨0, Nat.zero_le _, rfl, fun j _ h => absurd h (by omega)⟩
      case round =>
        obtain ⟨k, hk, rfl, hok⟩ := hrel
        have HW := Lib.hid hok
        clear hok
        by_cases hlt : k < ws.length
        · have := HZ.out
          omega
        · have hke : k = ws.length := by omega
          subst hke
          have hyes : okD ⟨cs, ws, true⟩ = true := by
            rw [okD_iff]
            refine ⟨H64.out, h120, fun _ => ⟨HZ.out, fun s hs => by
              obtain ⟨j, hj, rfl⟩ := List.getElem_of_mem hs
              exact (HOK.out j hj hj).2⟩, fun s hs => ?_, fun x hx => ?_⟩
            · obtain ⟨j, hj, rfl⟩ := List.getElem_of_mem hs
              exact (HOK.out j hj hj).1
            · obtain ⟨j, hj, rfl⟩ := List.getElem_of_mem hx
              exact HW.out j hj hj
          have HY := Lib.hid hyes
          clear hyes
          go_wp2_with fail
          go_ret
          exact ⟨by rw [HY.out]; rfl, bel_new (Below.refl _ _) _⟩

set_option maxRecDepth 100000 in
set_option maxHeartbeats 2000000 in
theorem spec_ok (A B : Option Addr) (c e : Nat) (d : Dk) (w : World) (hd : Bulk d) (h : DkAt w A B d) :
    Calls Try.prog 27 #[.agg #[.slice A d.cells.length c, .slice B d.waits.length e, .bool d.gone]] w (OkPost d w) := by
  obtain ⟨cs, ws, g⟩ := d
  show Calls Try.prog 27 #[.agg #[.slice A cs.length c, .slice B ws.length e, .bool g]] w (OkPost ⟨cs, ws, g⟩ w)
  by_cases h64 : cs.length = 64
  · by_cases h120 : ws.length ≤ 120
    · cases g
      · exact spec_ok_live A B c e cs ws w hd h h64 h120
      · by_cases hz : ws.length = 0
        · exact spec_ok_gone A B c e cs ws w hd h h64 h120 hz
        · have hno : ¬ DkOk ⟨cs, ws, true⟩ := fun h => hz (h.2.2.1 rfl).1
          have a1 : ((cs.length : Int) != 64) = false := by rw [h64]; rfl
          have a2 : ¬ (120 : Int) < (ws.length : Int) := by omega
          have a3 : (0 : Int) < (ws.length : Int) := by omega
          have HN := Lib.hid hno
          clear hno h64 h hd hz
          go_enter Try.func27, Try.ntmps27
          go_wp2
          go_ret
          exact OkPost.no HN.out (bel_new (Below.refl _ _) _)
    · have hno : ¬ DkOk ⟨cs, ws, g⟩ := fun h => h120 h.2.1
      have a1 : ((cs.length : Int) != 64) = false := by rw [h64]; rfl
      have a2 : (120 : Int) < (ws.length : Int) := by omega
      have HN := Lib.hid hno
      clear hno h64 h hd h120
      go_enter Try.func27, Try.ntmps27
      go_wp2
      go_ret
      exact OkPost.no HN.out (bel_new (Below.refl _ _) _)
  · have hno : ¬ DkOk ⟨cs, ws, g⟩ := fun h => h64 h.1
    have a1 : ((cs.length : Int) != 64) = true := by simp; omega
    have HN := Lib.hid hno
    clear hno h64 h hd
    go_enter Try.func27, Try.ntmps27
    go_wp2
    go_ret
    exact OkPost.no HN.out (bel_new (Below.refl _ _) _)
end Go.Proofs.Ytimpdjlgfjehcaa

namespace Go.Proofs.Ytimpdjlgfjehcaa
open Go.RowKit

theorem strCells_eq (cs : List ByteArray) : (strCells cs).toArray.toList = strCells cs := by simp
theorem info60 (n : Nat) (h : n = 64) : (Try.prog.info? 51).map (·.size) = some n := by subst h; kernel_rfl
theorem arr_at (A : Option Addr) (n c : Nat) (h : 64 ≤ n) (w : World) : (Instr.arrayAt 51 (.slice A n c)).run Try.prog w = .ok (.pointer A) w :=
  run_arrayAt w 51 9 64 A n c Try.underlying51 h
theorem arr_load (w : World) (b o : Nat) (cs : List ByteArray) (h64 : cs.length = 64) (h : w.rangeAt b o (strCells cs)) :
    (Instr.loadAt 51 (.pointer (some ⟨b, o, none⟩))).run Try.prog w = .ok (.agg (strCells cs).toArray) w :=
  run_loadAt_mid w b o 51 (strCells cs) _ h Try.underlying51 rfl (info60 _ (by rw [strCells_len, h64]))
theorem blank_cells : (strCells blank).toArray = Array.replicate 64 (Value.string ⟨#[]⟩) := by
  apply Array.ext'
  simp [strCells, blank, none8]
theorem arr_build (w : World) : (Instr.build 51 #[]).run Try.prog w = .ok (.agg (strCells blank).toArray) w :=
  run_build w 51 #[] _ (by kernel_rfl)

theorem part_str (w : World) (cs : List ByteArray) (i : Nat) (h : i < cs.length) : (part 9 (strCells cs).toArray (i * Try.prog.cellsOf 9)).run Try.prog w = .ok (.string cs[i]) w := by
  have hc : Try.prog.cellsOf 9 = 1 := by kernel_rfl
  have hg : (isAgg 9).run Try.prog w = .ok false w := Try.isAgg9 w
  rw [hc]
  simp [part, Sem.run_bind, hg, strCells, h]
theorem eq_items (w : World) (cs ds : List ByteArray) (d : Nat) : ∀ is : List Nat, (∀ i ∈ is, i < cs.length ∧ i < ds.length) →
    (Op.eqItems (d + 1) 9 (Try.prog.cellsOf 9) (strCells cs).toArray (strCells ds).toArray is).run Try.prog w = .ok (is.all fun i => cs.getD i none8 == ds.getD i none8) w
  | [], _ => by simp [Op.eqItems]
  | i :: is, h => by
    have h1 := h i (by simp)
    have ih := eq_items w cs ds d is (fun j hj => h j (by simp [hj]))
    have he : ∀ a b : ByteArray, (Op.equalIn (d + 1) 9 (.string a) (.string b)).run Try.prog w = .ok (a == b) w := fun a b => by simp [Op.equalIn, run_underlying Try.underlying9]
    simp only [Op.eqItems, Sem.run_bind, part_str w cs i h1.1, part_str w ds i h1.2, he, Result.andThen_ok]
    have g1 : cs.getD i none8 = cs[i]'h1.1 := by simp [h1.1]
    have g2 : ds.getD i none8 = ds[i]'h1.2 := by simp [h1.2]
    rw [List.all_cons, g1, g2]
    cases hq : (cs[i]'h1.1 == ds[i]'h1.2)
    · simp
    · simp [ih]
def blankB (cs : List ByteArray) : Bool := decide (∀ s ∈ cs, s.size = 0)
theorem size_none {s : ByteArray} (h : s.size = 0) : s = none8 := by
  cases s with
  | mk a =>
    have : a = #[] := Array.eq_empty_of_size_eq_zero h
    subst this
    rfl
theorem beq_none (s : ByteArray) : (s == none8) = decide (s.size = 0) := by
  have hn : none8.toList = [] := str_nil rfl
  rw [beq_toListBytes, hn]
  by_cases h : s.size = 0
  · rw [str_nil h]
    simp [h]
  · have h2 := str_some h
    simp [h, h2]
theorem blank_getD (i : Nat) (h : i < 64) : blank.getD i none8 = none8 := by
  unfold blank
  rw [List.getD_eq_getElem?_getD, List.getElem?_replicate, if_pos h]
  rfl
theorem blank_items (cs : List ByteArray) (h : cs.length = 64) : ((List.range 64).all fun i => cs.getD i none8 == blank.getD i none8) = blankB cs := by
  rw [Bool.eq_iff_iff]
  simp only [List.all_eq_true, List.mem_range, blankB, decide_eq_true_eq]
  constructor
  · intro hi s hs
    obtain ⟨j, hj, rfl⟩ := List.getElem_of_mem hs
    have := hi j (by omega)
    have e := blank_getD j (by omega)
    rw [e, beq_none] at this
    simpa [hj] using this
  · intro hs i hi
    have e := blank_getD i hi
    rw [e, beq_none]
    have := hs cs[i] (by simp)
    simpa [show i < cs.length by omega] using this
theorem arr_eq10 (w : World) (cs : List ByteArray) (h1 : cs.length = 64) : (Op.equalIn 10000 51 (.agg (strCells cs).toArray) (.agg (strCells blank).toArray)).run Try.prog w = .ok (blankB cs) w := by
  obtain ⟨i0, hi, _, _, _⟩ := info_parts Try.info9
  rw [show (10000 : Nat) = 9999 + 1 from rfl, run_equalIn_array w 9999 _ _ Try.underlying51 hi, show (9999 : Nat) = 9998 + 1 from rfl,
    eq_items w cs blank 9998 (List.range 64) (fun i hi => by simp [blank, h1] at hi ⊢; omega), blank_items cs h1]
theorem arr_eq (w : World) (cs : List ByteArray) (h1 : cs.length = 64) :
    (binOp .eql 51 (.agg (strCells cs).toArray) (.agg (strCells blank).toArray)).run Try.prog w = .ok (.bool (blankB cs)) w := by
  have := arr_eq10 w cs h1
  simp only [binOp]
  simp [Op.equal, Op.maxDepth, this]
theorem blank_lit : (strCells blank).toArray = #[.string ⟨#[]⟩, .string ⟨#[]⟩, .string ⟨#[]⟩, .string ⟨#[]⟩, .string ⟨#[]⟩, .string ⟨#[]⟩, .string ⟨#[]⟩, .string ⟨#[]⟩, .string ⟨#[]⟩, .string ⟨#[]⟩, .string ⟨#[]⟩, .string ⟨#[]⟩, .string ⟨#[]⟩, .string ⟨#[]⟩, .string ⟨#[]⟩, .string ⟨#[]⟩, .string ⟨#[]⟩, .string ⟨#[]⟩, .string ⟨#[]⟩, .string ⟨#[]⟩, .string ⟨#[]⟩, .string ⟨#[]⟩, .string ⟨#[]⟩, .string ⟨#[]⟩, .string ⟨#[]⟩, .string ⟨#[]⟩, .string ⟨#[]⟩, .string ⟨#[]⟩, .string ⟨#[]⟩, .string ⟨#[]⟩, .string ⟨#[]⟩, .string ⟨#[]⟩, .string ⟨#[]⟩, .string ⟨#[]⟩, .string ⟨#[]⟩, .string ⟨#[]⟩, .string ⟨#[]⟩, .string ⟨#[]⟩, .string ⟨#[]⟩, .string ⟨#[]⟩, .string ⟨#[]⟩, .string ⟨#[]⟩, .string ⟨#[]⟩, .string ⟨#[]⟩, .string ⟨#[]⟩, .string ⟨#[]⟩, .string ⟨#[]⟩, .string ⟨#[]⟩, .string ⟨#[]⟩, .string ⟨#[]⟩, .string ⟨#[]⟩, .string ⟨#[]⟩, .string ⟨#[]⟩, .string ⟨#[]⟩, .string ⟨#[]⟩, .string ⟨#[]⟩, .string ⟨#[]⟩, .string ⟨#[]⟩, .string ⟨#[]⟩, .string ⟨#[]⟩, .string ⟨#[]⟩, .string ⟨#[]⟩, .string ⟨#[]⟩, .string ⟨#[]⟩] := rfl
end Go.Proofs.Ytimpdjlgfjehcaa

namespace Go.Proofs.Ytimpdjlgfjehcaa
open Go.RowKit

theorem Lies.range {w : World} {A : Option Addr} {xs : List Value} (h : Lies w A xs) (h0 : 0 < xs.length) : ∃ b off, A = some ⟨b, off, none⟩ ∧ b < w.heap.size ∧ w.rangeAt b off xs := by
  obtain ⟨b, off, e, hlt, hc⟩ := h h0
  exact ⟨b, off, e, hlt, hc⟩

theorem wpList_load_guard {P : Program} {ops : Array Oper} {rest : List Oper} {op : Oper} {a : Act} {w : World} {Q : Exit → Act → World → Prop} (hw : Region.wanted op (yielded ops a.tmps) = true) (ty : TypeId) (x : Operand) (ho : op.op = .load ty x)
    (b o : Nat) (hx : a.eval x = .pointer (some ⟨b, o, none⟩)) (cs : List Value) (d : TypeDesc) (hc : w.rangeAt b o cs)
    (hu : P.underlying ty = some d) (hd : d.isRow = true) (hi : (P.info? ty).map (·.size) = some cs.length)
    (h : wpList P ops Q rest (a.put op.dst (.agg cs.toArray)) w) : wpList P ops Q (op :: rest) a w :=
  wpList_step fun K hK => by rw [if_pos hw]; exact wp_load_mid ty x ho b o hx cs d hc hu hd hi (hK _ _ h)

set_option maxRecDepth 100000 in
set_option maxHeartbeats 2000000 in
theorem impl_ok_gone (A B : Option Addr) (c e : Nat) (cs : List ByteArray) (ws : List Wt) (w : World) (hd : Bulk ⟨cs, ws, true⟩) (h : DkAt w A B ⟨cs, ws, true⟩) (h64 : cs.length = 64) (h120 : ws.length ≤ 120) (hz : ws.length = 0) :
    Calls Try.prog 24 #[.agg #[.slice A cs.length c, .slice B ws.length e, .bool true]] w (OkPost ⟨cs, ws, true⟩ w) := by
  have hres : okD ⟨cs, ws, true⟩ = blankB cs := by
    rw [Bool.eq_iff_iff, okD_iff]
    simp only [blankB, decide_eq_true_eq]
    constructor
    · intro h
      exact (h.2.2.1 rfl).2
    · intro hb
      have hw : ws = [] := List.eq_nil_of_length_eq_zero hz
      subst hw
      exact ⟨h64, h120, fun _ => ⟨rfl, hb⟩, fun s hs => by have := hb s hs; omega, fun x hx => by cases hx⟩
  have a1 : ((cs.length : Int) != 64) = false := by rw [h64]; rfl
  have a2 : ¬ (120 : Int) < (ws.length : Int) := by omega
  have a3 : ((ws.length : Int) == 0) = true := by rw [hz]; rfl
  obtain ⟨b, off, rfl, hb, hr⟩ := h.1.range (by show 0 < (strCells cs).length; rw [strCells_len]; omega)
  have k1 := fun w => arr_at (some ⟨b, off, none⟩) cs.length c (by omega) w
  have k4 := fun w => arr_eq10 w cs h64
  have hr2 := World.rangeAt_alloc hr (.cells #[.slice (some ⟨b, off, none⟩) cs.length c, .slice B ws.length e, .bool true] 26)
  have i60 := info60 (strCells cs).length (by rw [strCells_len, h64])
  obtain ⟨ca, hca⟩ : ∃ ca, ca = strCells cs := ⟨_, rfl⟩
  obtain ⟨r, hr'⟩ : ∃ r, r = blankB cs := ⟨_, rfl⟩
  rw [← hca] at hr2 k4 i60
  rw [blank_lit] at k4
  rw [← hr'] at k4 hres
  have RR := Lib.hid hr2
  have II := Lib.hid i60
  have HR := Lib.hid hres
  clear h64 hz hd h hr hca hr' hres hr2 i60
  go_enter Try.func24, Try.ntmps24
  go_wp2_with (refine wpList_load_guard (by first | rfl | simp [Region.wanted, yielded]) 51 _ rfl b off rfl ca _ RR.out Try.underlying51 rfl II.out ?_)
  go_ret
  exact ⟨by rw [HR.out]; rfl, bel_new (Below.refl _ _) _⟩
end Go.Proofs.Ytimpdjlgfjehcaa

namespace Go.Proofs.Ytimpdjlgfjehcaa
open Go.RowKit

set_option maxRecDepth 100000 in
set_option maxHeartbeats 2000000 in
theorem impl_ok_live (A B : Option Addr) (c e : Nat) (cs : List ByteArray) (ws : List Wt) (w : World) (hd : Bulk ⟨cs, ws, false⟩) (h : DkAt w A B ⟨cs, ws, false⟩) (h64 : cs.length = 64) (h120 : ws.length ≤ 120) :
    Calls Try.prog 24 #[.agg #[.slice A cs.length c, .slice B ws.length e, .bool false]] w (OkPost ⟨cs, ws, false⟩ w) := by
  obtain ⟨hn, hm, hs, ht⟩ := hd
  obtain ⟨l1, l2⟩ := h
  have hC := fun n w => i_cell n w
  have hF := fun s w hs => i_fits s w hs
  simp only at hn hm hs ht l1 l2
  have a1 : ((cs.length : Int) != 64) = false := by rw [h64]; rfl
  have a2 : ¬ (120 : Int) < (ws.length : Int) := by omega
  have H64 := Lib.hid h64
  have HS := Lib.hid hs
  have HT := Lib.hid ht
  have HC := Lib.hid hC
  have HF := Lib.hid hF
  clear h64 hs ht hC hF
  go_enter Try.func24, Try.ntmps24
  go_wp2
  go_loop [34] (fun i => ∃ k : Nat, k ≤ cs.length ∧ i = .int .i64 k ∧ ∀ j (h : j < cs.length), j < k → cs[j].size ≤ 200) (fun i => cs.length - (intOf i).toNat)
  case atStart => exact ⟨0, Nat.zero_le _, rfl, fun j _ h => absurd h (by omega)⟩
  case round =>
    obtain ⟨k, hk, rfl, hok⟩ := hrel
    have HOK := Lib.hid hok
    clear hok
    by_cases hlt : k < cs.length
    · obtain ⟨b, off, rfl, hlb, hck⟩ := l1.str k hlt
      have hsk := HS.out cs[k] (by simp)
      obtain ⟨x, hx⟩ : ∃ x, x = cs[k] := ⟨_, rfl⟩
      rw [← hx] at hck hsk
      have hF := fun w => HF.out x w hsk
      have hlt' : (k : Int) < (cs.length : Int) := by omega
      by_cases h2 : x.size ≤ 200
      · rw [show fitB x = true by simp [fitB, h2]] at hF
        have HX : Hid (cs[k].size ≤ 200) := Lib.hid (by rw [← hx]; exact h2)
        clear hx h2 hsk
        go_wp2_with (go_at_call 42; refine (hF _).mono ?_; rintro e w' ⟨rfl, rfl⟩)
        go_round
        case rel => exact ⟨k + 1, by omega, by go_num, fun j hj hjk => by
          by_cases ej : j = k
          · subst ej; exact HX.out
          · exact HOK.out j hj (by omega)⟩
        case measure => simp [intOf]; omega
      · rw [show fitB x = false by simp [fitB]; omega] at hF
        have hno : ¬ DkOk ⟨cs, ws, false⟩ := fun h => h2 (by rw [hx]; exact h.2.2.2.1 _ (by simp))
        have HN := Lib.hid hno
        clear hno hx h2 hsk
        go_wp2_with (go_at_call 42; refine (hF _).mono ?_; rintro e w' ⟨rfl, rfl⟩)
        go_ret
        exact OkPost.no HN.out (bel_new (Below.refl _ _) _)
    · have hke : k = cs.length := by omega
      subst hke
      have B0 := bel_new (Below.refl w.heap.size w) (.cells #[.slice A cs.length c, .slice B ws.length e, .bool false] 26)
      go_wp2_with fail
      go_loopw [45] (fun i wr => ∃ k : Nat, k ≤ ws.length ∧ i = .int .i64 k ∧ (∀ j (h : j < ws.length), j < k → WtOk ws[j]) ∧ Below w.heap.size w wr) (fun i _ => ws.length - (intOf i).toNat)
      case atStart => exact ⟨0, Nat.zero_le _, rfl, fun j _ h => absurd h (by omega), B0⟩
      case round =>
        obtain ⟨k, hk, rfl, hok, hb⟩ := hrel
        have HW := Lib.hid hok
        clear hok B0
        by_cases hlt : k < ws.length
        · obtain ⟨b, off, rfl, hlb, y0, y1⟩ := (l2.below hb).wt k hlt
          have hsk := HT.out ws[k] (by simp)
          obtain ⟨x, hx⟩ : ∃ x, x = ws[k].text := ⟨_, rfl⟩
          obtain ⟨n, hn'⟩ : ∃ n, n = ws[k].num := ⟨_, rfl⟩
          rw [← hx] at y1 hsk
          rw [← hn'] at y0
          have hlt' : (k : Int) < (ws.length : Int) := by omega
          have hC1 := fun w => HC.out n w
          have hF := fun w => HF.out x w hsk
          by_cases h1 : 0 ≤ n ∧ n ≤ 63
          · rw [cellB_yes h1] at hC1
            by_cases h2 : x.size ≤ 200
            · rw [show fitB x = true by simp [fitB, h2]] at hF
              have HX : Hid (WtOk ws[k]) := Lib.hid ⟨by rw [← hn']; exact h1.1, by rw [← hn']; exact h1.2, by rw [← hx]; exact h2⟩
              clear hx hn' h1 h2 hsk
              go_wp2_with (first | (go_at_call 36; refine (hC1 _).mono ?_; rintro e w' ⟨rfl, rfl⟩) | (go_at_call 42; refine (hF _).mono ?_; rintro e w' ⟨rfl, rfl⟩))
              go_roundw
              case rel => exact ⟨k + 1, by omega, by go_num, fun j hj hjk => by
                by_cases ej : j = k
                · subst ej; exact HX.out
                · exact HW.out j hj (by omega), bel_new hb _⟩
              case measure => simp [intOf]; omega
            · rw [show fitB x = false by simp [fitB]; omega] at hF
              have hno : ¬ DkOk ⟨cs, ws, false⟩ := fun h => h2 (by rw [hx]; exact (h.2.2.2.2 _ (by simp : ws[k] ∈ ws)).2.2)
              have HN := Lib.hid hno
              clear hno hx hn' h1 h2 hsk
              go_wp2_with (first | (go_at_call 36; refine (hC1 _).mono ?_; rintro e w' ⟨rfl, rfl⟩) | (go_at_call 42; refine (hF _).mono ?_; rintro e w' ⟨rfl, rfl⟩))
              go_ret
              exact OkPost.no HN.out (bel_new hb _)
          · rw [cellB_no h1] at hC1
            have hno : ¬ DkOk ⟨cs, ws, false⟩ := fun h => h1 (by have := h.2.2.2.2 _ (by simp : ws[k] ∈ ws); rw [hn']; exact ⟨this.1, this.2.1⟩)
            have HN := Lib.hid hno
            clear hno hx hn' h1 hsk
            go_wp2_with (first | (go_at_call 36; refine (hC1 _).mono ?_; rintro e w' ⟨rfl, rfl⟩) | (go_at_call 42; refine (hF _).mono ?_; rintro e w' ⟨rfl, rfl⟩))
            go_ret
            exact OkPost.no HN.out (bel_new hb _)
        · have hke : k = ws.length := by omega
          subst hke
          have hyes : okD ⟨cs, ws, false⟩ = true := by
            rw [okD_iff]
            refine ⟨H64.out, h120, fun h => absurd (show false = true from h) (by decide), fun s hs => ?_, fun x hx => ?_⟩
            · obtain ⟨j, hj, rfl⟩ := List.getElem_of_mem hs
              exact HOK.out j hj hj
            · obtain ⟨j, hj, rfl⟩ := List.getElem_of_mem hx
              exact HW.out j hj hj
          have HY := Lib.hid hyes
          clear hyes
          go_wp2_with fail
          go_ret
          exact ⟨by rw [HY.out]; rfl, hb⟩

set_option maxRecDepth 100000 in
set_option maxHeartbeats 2000000 in
theorem impl_ok (A B : Option Addr) (c e : Nat) (d : Dk) (w : World) (hd : Bulk d) (h : DkAt w A B d) :
    Calls Try.prog 24 #[.agg #[.slice A d.cells.length c, .slice B d.waits.length e, .bool d.gone]] w (OkPost d w) := by
  obtain ⟨cs, ws, g⟩ := d
  show Calls Try.prog 24 #[.agg #[.slice A cs.length c, .slice B ws.length e, .bool g]] w (OkPost ⟨cs, ws, g⟩ w)
  by_cases h64 : cs.length = 64
  · by_cases h120 : ws.length ≤ 120
    · cases g
      · exact impl_ok_live A B c e cs ws w hd h h64 h120
      · by_cases hz : ws.length = 0
        · exact impl_ok_gone A B c e cs ws w hd h h64 h120 hz
        · have hno : ¬ DkOk ⟨cs, ws, true⟩ := fun h => hz (h.2.2.1 rfl).1
          have a1 : ((cs.length : Int) != 64) = false := by rw [h64]; rfl
          have a2 : ¬ (120 : Int) < (ws.length : Int) := by omega
          have a3 : ((ws.length : Int) == 0) = false := by rw [beq_eq_false_iff_ne]; omega
          have HN := Lib.hid hno
          clear hno h64 h hd hz
          go_enter Try.func24, Try.ntmps24
          go_wp2
          go_ret
          exact OkPost.no HN.out (bel_new (Below.refl _ _) _)
    · have hno : ¬ DkOk ⟨cs, ws, g⟩ := fun h => h120 h.2.1
      have a1 : ((cs.length : Int) != 64) = false := by rw [h64]; rfl
      have a2 : (120 : Int) < (ws.length : Int) := by omega
      have HN := Lib.hid hno
      clear hno h64 h hd h120
      go_enter Try.func24, Try.ntmps24
      go_wp2
      go_ret
      exact OkPost.no HN.out (bel_new (Below.refl _ _) _)
  · have hno : ¬ DkOk ⟨cs, ws, g⟩ := fun h => h64 h.1
    have a1 : ((cs.length : Int) != 64) = true := by simp; omega
    have HN := Lib.hid hno
    clear hno h64 h hd
    go_enter Try.func24, Try.ntmps24
    go_wp2
    go_ret
    exact OkPost.no HN.out (bel_new (Below.refl _ _) _)

set_option maxHeartbeats 1000000 in
theorem impl_dok (A B : Option Addr) (c e : Nat) (d : Dk) (w : World) (hd : Bulk d) (h : DkAt w A B d) :
    Calls Try.prog 10 #[.agg #[.slice A d.cells.length c, .slice B d.waits.length e, .bool d.gone]] w (OkPost d w) := by
  have hO := fun W hW => impl_ok A B c e d W hd (h.below (w' := W) hW)
  go_enter Try.func10, Try.ntmps10
  go_wp2_with (go_at_call 24; refine (hO _ (bel_new (Below.refl _ _) _)).mono ?_; rintro r w2 ⟨rfl, hb2⟩)
  go_ret
  exact ⟨rfl, bel_then (bel_new (Below.refl _ _) _) hb2⟩
end Go.Proofs.Ytimpdjlgfjehcaa

namespace Go.Proofs.Ytimpdjlgfjehcaa
open Go.RowKit

/-- Block g is a box of three cells. -/
def Bx (W : World) (g : Nat) (t : TypeId) (x y z : Value) : Prop := W.heap[g]? = some (.cells #[x, y, z] t (0, 0))
theorem Bx.new (w : World) (t : TypeId) (x y z : Value) : Bx (w.alloc (.cells #[x, y, z] t)) w.heap.size t x y z := heap_alloc_new w _
theorem Bx.lt {W : World} {g : Nat} {t : TypeId} {x y z : Value} (h : Bx W g t x y z) : g < W.heap.size := (Array.getElem?_eq_some_iff.1 h).1
theorem Bx.below {W W' : World} {g : Nat} {t : TypeId} {x y z : Value} (h : Bx W g t x y z) (hb : Below W.heap.size W W') : Bx W' g t x y z := (hb.block g h.lt).trans h
theorem Bx.alloc {W : World} {g : Nat} {t : TypeId} {x y z : Value} (h : Bx W g t x y z) (o : Obj) : Bx (W.alloc o) g t x y z := (Below.heap_alloc W o g h.lt).trans h
theorem Bx.drew {W : World} {g : Nat} {t : TypeId} {x y z : Value} (h : Bx W g t x y z) : Bx W.drew g t x y z := h
theorem Bx.set {W : World} {g : Nat} {t : TypeId} {x y z : Value} (h : Bx W g t x y z) {p : Addr} (hp : g ≠ p.block) (u : Value) : Bx (W.setCell p u) g t x y z := (Below.heap_setCell W p u g hp).trans h
theorem Bx.only {W W' : World} {lo hi g : Nat} {t : TypeId} {x y z : Value} (h : Bx W g t x y z) (hg : Only lo hi W W') (hn : ¬ (lo ≤ g ∧ g < hi)) : Bx W' g t x y z := (hg.block g h.lt hn).trans h
theorem Bx.cells {W : World} {g : Nat} {t : TypeId} {x y z : Value} (h : Bx W g t x y z) :
    (W.cell? ⟨g, 0, none⟩ = some x ∧ W.cell? ⟨g, 1, none⟩ = some y ∧ W.cell? ⟨g, 2, none⟩ = some z) ∧ (W.frozen? ⟨g, 0, none⟩ = false ∧ W.frozen? ⟨g, 1, none⟩ = false ∧ W.frozen? ⟨g, 2, none⟩ = false) := by
  unfold Bx at h
  simp [World.cell?, World.frozen?, h]

def dV (A : Option Addr) (c : Nat) (B : Option Addr) (e : Nat) (d : Dk) : Value := .agg #[.slice A d.cells.length c, .slice B d.waits.length e, .bool d.gone]
theorem DkOwn.lies {w : World} {base : Nat} {A B : Option Addr} {c e : Nat} {d : Dk} (h : DkOwn w base (.agg #[.slice A d.cells.length c, .slice B d.waits.length e, .bool d.gone]) d) : DkAt w A B d := by
  obtain ⟨A', c', B', e', hv, h'⟩ := h.at_
  simp only [Value.agg.injEq, Array.mk.injEq, List.cons.injEq, Value.slice.injEq, and_true, true_and] at hv
  obtain ⟨⟨rfl, rfl⟩, rfl, rfl⟩ := hv
  exact h'
/-- A disk is returned, in memory of the call's own. -/
def DPost (d : Dk) (w : World) (r : Ending) (w' : World) : Prop :=
  ∃ A c B e, r = .returned (.agg #[.slice A d.cells.length c, .slice B d.waits.length e, .bool d.gone]) ∧ DkOwn w' w.heap.size (.agg #[.slice A d.cells.length c, .slice B d.waits.length e, .bool d.gone]) d ∧ Below w.heap.size w w'
theorem DkPost.out {d : Dk} {w w' : World} {r : Ending} (h : DkPost d w r w') : DPost d w r w' := by
  obtain ⟨v, rfl, h1, h2⟩ := h
  obtain ⟨A, c, B, e, rfl, _⟩ := h1.at_
  exact ⟨A, c, B, e, rfl, h1, h2⟩
/-- A disk and a bool are returned. -/
def DPost2 (d : Dk) (b : Bool) (w : World) (r : Ending) (w' : World) : Prop :=
  ∃ A c B e, r = .returned (.tuple #[.agg #[.slice A d.cells.length c, .slice B d.waits.length e, .bool d.gone], .bool b]) ∧ DkOwn w' w.heap.size (.agg #[.slice A d.cells.length c, .slice B d.waits.length e, .bool d.gone]) d ∧ Below w.heap.size w w'
end Go.Proofs.Ytimpdjlgfjehcaa

namespace Go.Proofs.Ytimpdjlgfjehcaa
open Go.RowKit

theorem block_of_add (a : Addr) (n : Nat) : (a.add n).block = a.block := by unfold Addr.add; split <;> rfl
/-- Append, the source nil, empty or not. -/
theorem run_append_of_nil {P : Program} (w : World) (base : Nat) (t ty e : TypeId) (i : TypeInfo) (size : Nat) (ht : P.underlying t = some (.slice e)) (hi : P.info? e = some i)
    (v : Value) (n : Nat) (xs : List Value) (hown : w.ownsRow base e size v n xs) (c : Nat) : (Builtin.append_ #[t, t] ty #[v, .slice none 0 c]).run P w = .ok v w := by
  rcases hown.2 with ⟨rfl, rfl⟩ | ⟨g, cap, cur, rfl, _, _, hnc, _⟩
  · simp [Builtin.append_, run_underlying ht, sizeOf, typeInfo, hi, Builtin.lenOf, Builtin.firstCells]
  · simp [Builtin.append_, run_underlying ht, sizeOf, typeInfo, hi, Builtin.lenOf, Builtin.firstCells, hnc, storeCells]
theorem run_append_lies {P : Program} (w : World) (base : Nat) (t ty e : TypeId) (i : TypeInfo) (z : Value) (size bytes : Nat) (ht : P.underlying t = some (.slice e)) (hi : P.info? e = some i) (hz : i.zero = some z)
    (hsize : i.size = size) (hby : i.bytes = bytes) (hzs : z.cells.size = size) (hsz : 0 < size)
    (v : Value) (n : Nat) (xs : List Value) (hown : w.ownsRow base e size v n xs)
    (A : Option Addr) (m c : Nat) (news : List Value) (hl : news.length = m * size) (hr : Lies w A news) (h1 : ∀ u ∈ news, u.oneCell' = true)
    (h63 : n + m ≤ maxLen) (hbytes : (n + m) * bytes ≤ 140737488355328) (hbase : base ≤ w.heap.size) :
    ∃ v' w', (Builtin.append_ #[t, t] ty #[v, .slice A m c]).run P w = .ok v' w' ∧ w'.ownsRow base e size v' (n + m) (xs ++ news) ∧ w.grownBy w' v.ownBlock := by
  rcases Nat.eq_zero_or_pos m with h0 | h0
  · subst h0
    have hn : news = [] := List.eq_nil_of_length_eq_zero (by simpa using hl)
    subst hn
    rcases A with _ | ad
    · exact ⟨v, w, run_append_of_nil w base t ty e i size ht hi v n xs hown c, by simpa using hown, World.grownBy.refl w _⟩
    · obtain ⟨v', w', hrun, h2, h3, _, h5⟩ := run_append_own_at (P := P) w base t ty e i z size bytes ht hi hz hsize hby hzs hsz v n xs hown ad 0 c [] hl (fun j u hu => by simp at hu) h1 h63 hbytes hbase
      exact ⟨v', w', hrun, h2, h3⟩
  · have hpos : 0 < news.length := by rw [hl]; exact Nat.mul_pos h0 hsz
    obtain ⟨b, off, rfl, hb, hc⟩ := hr hpos
    obtain ⟨v', w', hrun, h2, h3, _, h5⟩ := run_append_own_at (P := P) w base t ty e i z size bytes ht hi hz hsize hby hzs hsz v n xs hown ⟨b, off, none⟩ m c news hl (fun j u hu => by rw [Addr.add_mid]; exact hc j u hu) h1 h63 hbytes hbase
    exact ⟨v', w', hrun, h2, h3⟩
theorem wpList_append_lies2 {P : Program} (w : World) {ops : Array Oper} {rest : List Oper} {o : Oper} {a : Act} {Q : Exit → Act → World → Prop} (hgd : o.guard = none) (s x : Operand) (t : TypeId)
    (ho : o.op = .call { callee := .builtin .append, args := #[s, x], argTypes := #[t, t] })
    (base : Nat) (e : TypeId) (i : TypeInfo) (z : Value) (size bytes : Nat) (ht : P.underlying t = some (.slice e)) (hi : P.info? e = some i) (hz : i.zero = some z)
    (hsize : i.size = size) (hby : i.bytes = bytes) (hzs : z.cells.size = size) (hsz : 0 < size)
    (v : Value) (n : Nat) (xs : List Value) (hs : a.eval s = v) (hown : w.ownsRow base e size v n xs)
    (A : Option Addr) (m c : Nat) (news : List Value) (hx : a.eval x = .slice A m c) (hl : news.length = m * size) (hr : Lies w A news) (h1 : ∀ u ∈ news, u.oneCell' = true)
    (h63 : n + m ≤ maxLen) (hbytes : (n + m) * bytes ≤ 140737488355328) (hbase : base ≤ w.heap.size)
    (h : ∀ v' w', w'.ownsRow base e size v' (n + m) (xs ++ news) → w.grownBy w' v.ownBlock → wpList P ops Q rest (a.put o.dst v') w') : wpList P ops Q (o :: rest) a w :=
  wpList_plain hgd fun _ hK => by
    obtain ⟨v', w', hrun, h2, h3⟩ := run_append_lies (P := P) w base t o.type e i z size bytes ht hi hz hsize hby hzs hsz v n xs hown A m c news hl hr h1 h63 hbytes hbase
    unfold Oper.wp execOp
    simp only [ho, resolve, invoke, builtin, Sem.run_bind, Sem.run_pure, Result.andThen_ok, List.map_toArray, List.map_cons, List.map_nil, hs, hx, hrun]
    exact hK _ _ (h v' w' h2 h3)

def ClonePost (t : TypeId) (size n : Nat) (xs : List Value) (w : World) (r : Ending) (w' : World) : Prop :=
  ∃ A c, r = .returned (.slice A n c) ∧ w'.ownsRow w.heap.size t size (.slice A n c) n xs ∧ Below w.heap.size w w'

set_option maxRecDepth 100000 in
set_option maxHeartbeats 2000000 in
theorem clone_strs (A : Option Addr) (c : Nat) (ss : List ByteArray) (w : World) (hn : ss.length ≤ 1048576) (hA : Lies w A (strCells ss)) :
    Calls Try.prog 46 #[.slice A ss.length c] w (ClonePost 9 1 ss.length (strCells ss) w) := by
  obtain ⟨i0, hi, hz0, hz1, hz2⟩ := info_parts Try.info9
  have q22 : ∀ (w : World) (a : Option Addr) (n c n' c' : Nat), (binOp .eql 23 (.slice a n c) (.slice none n' c')).run Try.prog w = .ok (.bool a.isNone) w := fun w a n c n' c' => Lib.run_eql_slice_nil w _ _ a n c n' c' Try.underlying23
  cases A with
  | none =>
    have h0 : ss = [] := by
      rcases Nat.eq_zero_or_pos ss.length with h | h
      · exact List.eq_nil_of_length_eq_zero h
      · obtain ⟨b, off, e, _⟩ := hA (by rw [strCells_len]; exact h)
        cases e
    subst h0
    go_enter Try.func46, Try.ntmps46
    go_wp2
    go_ret
    exact ⟨none, 0, rfl, ⟨rfl, .inl ⟨rfl, rfl⟩⟩, Below.refl _ _⟩
  | some a =>
    have hA2 := Lib.hid (hA.alloc (.cells #[] 9))
    clear hA
    go_enter Try.func46, Try.ntmps46
    go_wp2_with (at_builtin; refine wpList_append_lies2 _ rfl _ _ 23 rfl w.heap.size 9 i0 (.string ⟨#[]⟩) 1 16 Try.underlying23 hi hz0 hz1 hz2 rfl (by decide) _ _ _ rfl (World.ownsRow_made w #[] 0 (Nat.le_refl _) (Nat.zero_le _) rfl) (some a) ss.length c (strCells ss) rfl (by rw [strCells_len, Nat.mul_one]) hA2.out (strCells_one ss) (by unfold maxLen; omega) (by omega) (by simp) ?_)
    intro v' w1 hown hgrow
    obtain ⟨A', c', rfl, _⟩ := own_lies hown
    go_wp2
    go_ret
    exact ⟨A', c', rfl, hown, ((Below.refl _ w).alloc (Nat.le_refl _) _).grown hgrow (by simp) (by intro k hk; simp [Value.ownBlock] at hk; omega)⟩

set_option maxRecDepth 100000 in
set_option maxHeartbeats 2000000 in
theorem clone_waits (A : Option Addr) (c : Nat) (ss : List Wt) (w : World) (hn : ss.length ≤ 1048576) (hA : Lies w A (wtCells ss)) :
    Calls Try.prog 47 #[.slice A ss.length c] w (ClonePost 32 2 ss.length (wtCells ss) w) := by
  obtain ⟨i0, hi, hz0, hz1, hz2⟩ := info_parts Try.info32
  have q22 : ∀ (w : World) (a : Option Addr) (n c n' c' : Nat), (binOp .eql 24 (.slice a n c) (.slice none n' c')).run Try.prog w = .ok (.bool a.isNone) w := fun w a n c n' c' => Lib.run_eql_slice_nil w _ _ a n c n' c' Try.underlying24
  cases A with
  | none =>
    have h0 : ss = [] := by
      rcases Nat.eq_zero_or_pos ss.length with h | h
      · exact List.eq_nil_of_length_eq_zero h
      · obtain ⟨b, off, e, _⟩ := hA (by rw [wtCells_len]; omega)
        cases e
    subst h0
    go_enter Try.func47, Try.ntmps47
    go_wp2
    go_ret
    exact ⟨none, 0, rfl, ⟨rfl, .inl ⟨rfl, rfl⟩⟩, Below.refl _ _⟩
  | some a =>
    have hA2 := Lib.hid (hA.alloc (.cells #[] 32))
    clear hA
    go_enter Try.func47, Try.ntmps47
    go_wp2_with (at_builtin; refine wpList_append_lies2 _ rfl _ _ 24 rfl w.heap.size 32 i0 (.agg #[.int .i64 0, .string ⟨#[]⟩]) 2 24 Try.underlying24 hi hz0 hz1 hz2 rfl (by decide) _ _ _ rfl (World.ownsRow_made w #[] 0 (Nat.le_refl _) (Nat.zero_le _) rfl) (some a) ss.length c (wtCells ss) rfl (wtCells_len ss) hA2.out (wtCells_one ss) (by unfold maxLen; omega) (by omega) (by simp) ?_)
    intro v' w1 hown hgrow
    obtain ⟨A', c', rfl, _⟩ := own_lies hown
    go_wp2
    go_ret
    exact ⟨A', c', rfl, hown, ((Below.refl _ w).alloc (Nat.le_refl _) _).grown hgrow (by simp) (by intro k hk; simp [Value.ownBlock] at hk; omega)⟩
end Go.Proofs.Ytimpdjlgfjehcaa

namespace Go.Proofs.Ytimpdjlgfjehcaa
open Go.RowKit

/-- The two boxes of a copy, kept. -/
def TwoB (w : World) (g h : Nat) (x y z : Value) (W : World) : Prop :=
  W.cell? ⟨g, 0, none⟩ = some x ∧ W.cell? ⟨g, 1, none⟩ = some y ∧ W.cell? ⟨g, 2, none⟩ = some z ∧ W.cell? ⟨h, 0, none⟩ = some (.slice none 0 0) ∧ W.cell? ⟨h, 1, none⟩ = some (.slice none 0 0) ∧ W.cell? ⟨h, 2, none⟩ = some (.bool false) ∧
    W.frozen? ⟨h, 0, none⟩ = false ∧ W.frozen? ⟨h, 1, none⟩ = false ∧ W.frozen? ⟨h, 2, none⟩ = false ∧ g < W.heap.size ∧ h < W.heap.size ∧ Below w.heap.size w W
theorem TwoB.next {w W W' : World} {g h : Nat} {x y z : Value} (k : TwoB w g h x y z W) (hb : Below W.heap.size W W') : TwoB w g h x y z W' := by
  obtain ⟨a0, a1, a2, b0, b1, b2, f0, f1, f2, hg, hh, hw⟩ := k
  exact ⟨(hb.cell hg).trans a0, (hb.cell hg).trans a1, (hb.cell hg).trans a2, (hb.cell hh).trans b0, (hb.cell hh).trans b1, (hb.cell hh).trans b2, (hb.frozen hh).trans f0, (hb.frozen hh).trans f1, (hb.frozen hh).trans f2, Nat.lt_of_lt_of_le hg hb.size, Nat.lt_of_lt_of_le hh hb.size, bel_then hw hb⟩
theorem TwoB.drew {w W : World} {g h : Nat} {x y z : Value} (k : TwoB w g h x y z W) : TwoB w g h x y z W.drew := by
  obtain ⟨a0, a1, a2, b0, b1, b2, f0, f1, f2, hg, hh, hw⟩ := k
  exact ⟨a0, a1, a2, b0, b1, b2, f0, f1, f2, hg, hh, hw.drew⟩
theorem TwoB.new (w : World) (x y z : Value) : TwoB w w.heap.size (w.heap.size + 1) x y z ((w.alloc (.cells #[x, y, z] 26)).alloc (.cells #[.slice none 0 0, .slice none 0 0, .bool false] 26)) := by
  obtain ⟨⟨a0, a1, a2⟩, _⟩ := ((Bx.new w 26 x y z).alloc (.cells #[.slice none 0 0, .slice none 0 0, .bool false] 26)).cells
  obtain ⟨⟨b0, b1, b2⟩, f0, f1, f2⟩ := (Bx.new (w.alloc (.cells #[x, y, z] 26)) 26 (.slice none 0 0) (.slice none 0 0) (.bool false)).cells
  rw [World.size_alloc] at b0 b1 b2 f0 f1 f2
  exact ⟨a0, a1, a2, b0, b1, b2, f0, f1, f2, by simp; omega, by simp, bel_new (bel_new (Below.refl _ _) _) _⟩

/-- One box, kept. -/
def OneB (w : World) (g : Nat) (x y z : Value) (W : World) : Prop :=
  W.cell? ⟨g, 0, none⟩ = some x ∧ W.cell? ⟨g, 1, none⟩ = some y ∧ W.cell? ⟨g, 2, none⟩ = some z ∧ Below w.heap.size w W
theorem TwoB.one {w W : World} {g h : Nat} {x y z : Value} (k : TwoB w g h x y z W) : OneB w g x y z W := ⟨k.1, k.2.1, k.2.2.1, k.2.2.2.2.2.2.2.2.2.2.2⟩
theorem OneB.set {w W : World} {g : Nat} {x y z : Value} (k : OneB w g x y z W) {h i : Nat} (hh : w.heap.size ≤ h) (hg : h ≠ g) (u : Value) : OneB w g x y z (W.setCell ⟨h, i, none⟩ u) := by
  obtain ⟨a0, a1, a2, b⟩ := k
  have o : ∀ j, (W.setCell ⟨h, i, none⟩ u).cell? ⟨g, j, none⟩ = W.cell? ⟨g, j, none⟩ := fun j => World.cell?_setCell_other _ _ _ _ (fun e => hg (by cases e; rfl))
  exact ⟨(o 0).trans a0, (o 1).trans a1, (o 2).trans a2, b.setCell (p := ⟨h, i, none⟩) hh u⟩
theorem OneB.box {w W : World} {g : Nat} {x y z : Value} (k : OneB w g x y z W) {h : Nat} (hh : w.heap.size ≤ h) (hg : h ≠ g) (a b c : Value) : OneB w g x y z (((W.setCell ⟨h, 0, none⟩ a).setCell ⟨h, 1, none⟩ b).setCell ⟨h, 2, none⟩ c) :=
  ((k.set hh hg a).set hh hg b).set hh hg c

set_option maxRecDepth 100000 in
set_option maxHeartbeats 4000000 in
theorem copied (A B : Option Addr) (c e : Nat) (d : Dk) (w : World) (hd : Bulk d) (hA : DkAt w A B d) :
    Calls Try.prog 33 #[.agg #[.slice A d.cells.length c, .slice B d.waits.length e, .bool d.gone]] w (DPost d w) := by
  have hS := fun W hW => clone_strs A c d.cells W hd.cells (hA.1.below (w' := W) hW)
  have hT := fun W hW => clone_waits B e d.waits W hd.waits (hA.2.below (w' := W) hW)
  have K0 := TwoB.new w (.slice A d.cells.length c) (.slice B d.waits.length e) (.bool d.gone)
  have K1 := K0.drew
  have k0 := K0.one
  have k1 := K1.one
  obtain ⟨x0, x1, x2, y0, y1, y2, f0, f1, f2, hg, hh, B0⟩ := id K0
  have hle : w.heap.size ≤ w.heap.size + 1 := by omega
  have hne : w.heap.size + 1 ≠ w.heap.size := by omega
  clear hA
  go_enter Try.func33, Try.ntmps33
  go_upto_region 1 with fail
  go_region_held3 (fun W => W.cell? ⟨w.heap.size, 0, none⟩ = some (.slice A d.cells.length c) ∧ W.cell? ⟨w.heap.size, 1, none⟩ = some (.slice B d.waits.length e) ∧ W.cell? ⟨w.heap.size, 2, none⟩ = some (.bool d.gone) ∧ Below w.heap.size w W)
    ((show OneB w w.heap.size (.slice A d.cells.length c) (.slice B d.waits.length e) (.bool d.gone) _; with_reducible (first | exact k0 | exact k1 | exact k2 | exact k3 | exact k3.box hle hne _ _ _)))
    (first
      | (go_at_call 46; refine (hS _ k1.2.2.2).mono ?_; rintro r w2 ⟨A2, c2, rfl, o2, hb2⟩; have K2 := K1.next hb2; have k2 := K2.one)
      | (go_at_call 47; refine (hT _ k2.2.2.2).mono ?_; rintro r w3 ⟨A3, c3, rfl, o3, hb3⟩; have K3 := K2.next hb3; have k3 := K3.one; obtain ⟨z0, z1, z2, y0, y1, y2, f0, f1, f2, _⟩ := id K3))
  have p2 := own_base (base' := w.heap.size + 1 + 1) (own_bel o2 hb3) (by simp)
  have p3 := own_base (base' := w.heap.size + 1 + 1) o3 (by have := hb2.size; simp at this; omega)
  have ow : DkOwn w3 (w.heap.size + 1 + 1) (.agg #[.slice A2 d.cells.length c2, .slice A3 d.waits.length c3, .bool d.gone]) d := ⟨9, _, _, rfl, .inl rfl, p2, p3⟩
  have B3 := k3.2.2.2
  clear hS hT K0 K1 k0 k1 x0 x1 x2 z0 z1 z2 K2 k2 K3 k3 o2 o3 hb2 hb3 p2 p3
  go_wp2_with fail
  exact bodyPost_ret (v := .agg #[.slice A2 d.cells.length c2, .slice A3 d.waits.length c3, .bool d.gone]) (by simp [results, Try.f33, go_sem, y0, y1, y2]) rfl ⟨_, _, _, _, rfl, (ow.box (R := w.heap.size + 1) (by omega) _ _ _).base (by omega), bel_box B3 hle _ _ _⟩
end Go.Proofs.Ytimpdjlgfjehcaa

namespace Go.Proofs.Ytimpdjlgfjehcaa
open Go.RowKit

theorem step_append_lies2 {P : Program} (w : World) {ops : Array Oper} {o : Oper} {a : Act} {K : Act → World → Prop} {Q : Exit → Act → World → Prop} {E : Prop} (hgd : o.guard = none) (s x : Operand) (t : TypeId)
    (ho : o.op = .call { callee := .builtin .append, args := #[s, x], argTypes := #[t, t] })
    (base : Nat) (e : TypeId) (i : TypeInfo) (z : Value) (size bytes : Nat) (ht : P.underlying t = some (.slice e)) (hi : P.info? e = some i) (hz : i.zero = some z)
    (hsize : i.size = size) (hby : i.bytes = bytes) (hzs : z.cells.size = size) (hsz : 0 < size)
    (v : Value) (n : Nat) (xs : List Value) (hs : a.eval s = v) (hown : w.ownsRow base e size v n xs)
    (A : Option Addr) (m c : Nat) (news : List Value) (hx : a.eval x = .slice A m c) (hl : news.length = m * size) (hr : Lies w A news) (h1 : ∀ u ∈ news, u.oneCell' = true)
    (h63 : n + m ≤ maxLen) (hbytes : (n + m) * bytes ≤ 140737488355328) (hbase : base ≤ w.heap.size)
    (h : ∀ v' w', w'.ownsRow base e size v' (n + m) (xs ++ news) → w.grownBy w' v.ownBlock → K (a.put o.dst v') w') : if Region.wanted o (yielded ops a.tmps) = true then Oper.wp P o a w K Q else E := by
  have hw : Region.wanted o (yielded ops a.tmps) = true := by simp [Region.wanted, hgd]
  rw [if_pos hw]
  obtain ⟨v', w', hrun, h2, h3⟩ := run_append_lies (P := P) w base t o.type e i z size bytes ht hi hz hsize hby hzs hsz v n xs hown A m c news hl hr h1 h63 hbytes hbase
  unfold Oper.wp execOp
  simp only [ho, resolve, invoke, builtin, Sem.run_bind, Sem.run_pure, Result.andThen_ok, List.map_toArray, List.map_cons, List.map_nil, hs, hx, hrun]
  exact h v' w' h2 h3
theorem TwoB.alloc {w W : World} {g h : Nat} {x y z : Value} (k : TwoB w g h x y z W) (o : Obj) : TwoB w g h x y z (W.alloc o) := k.next ((Below.refl _ _).alloc (Nat.le_refl _) o)
theorem TwoB.grown {w W W' : World} {g h : Nat} {x y z : Value} (k : TwoB w g h x y z W) {r : Option Nat} (hg : W.grownBy W' r) (hr : ∀ b, r = some b → b ≠ g ∧ b ≠ h ∧ w.heap.size ≤ b) : TwoB w g h x y z W' := by
  obtain ⟨a0, a1, a2, b0, b1, b2, f0, f1, f2, lg, lh, hw⟩ := k
  have eg := hg.block g lg (fun e => (hr _ e.symm).1 rfl)
  have eh := hg.block h lh (fun e => (hr _ e.symm).2.1 rfl)
  have cg := fun i => World.cell?_of_block (a := ⟨g, i, none⟩) eg
  have ch := fun i => World.cell?_of_block (a := ⟨h, i, none⟩) eh
  have fh := fun i => World.frozen?_of_block (a := ⟨h, i, none⟩) eh
  exact ⟨(cg 0).trans a0, (cg 1).trans a1, (cg 2).trans a2, (ch 0).trans b0, (ch 1).trans b1, (ch 2).trans b2, (fh 0).trans f0, (fh 1).trans f1, (fh 2).trans f2, Nat.lt_of_lt_of_le lg hg.size, Nat.lt_of_lt_of_le lh hg.size, hw.grown hg hw.size (fun b e => (hr b e).2.2)⟩

theorem own_past2 {W W2 : World} {b1 : Nat} {v v9 : Value} (h : W.ownsRow b1 32 2 v 0 []) (g : W.grownBy W2 v9.ownBlock) (hne : v.ownBlock ≠ v9.ownBlock) : W2.ownsRow b1 32 2 v 0 [] := h.kept g (.inr hne)

set_option maxRecDepth 100000 in
set_option maxHeartbeats 8000000 in
theorem spec_copy (A B : Option Addr) (c e : Nat) (d : Dk) (w : World) (hd : Bulk d) (hA : DkAt w A B d) :
    Calls Try.prog 29 #[.agg #[.slice A d.cells.length c, .slice B d.waits.length e, .bool d.gone]] w (DPost d w) := by
  obtain ⟨i0, hi, hz0, hz1, hz2⟩ := info_parts Try.info9
  obtain ⟨j0, hj, hy0, hy1, hy2⟩ := info_parts Try.info32
  have hS := fun W hW => hA.1.below (w' := W) hW
  have hT := fun W hW => hA.2.below (w' := W) hW
  have hdc := hd.cells
  have hdw := hd.waits
  have K0 := TwoB.new w (.slice A d.cells.length c) (.slice B d.waits.length e) (.bool d.gone)
  have s0 : w.heap.size + 1 + 1 ≤ ((w.alloc (.cells #[.slice A d.cells.length c, .slice B d.waits.length e, .bool d.gone] 26)).alloc (.cells #[.slice none 0 0, .slice none 0 0, .bool false] 26)).heap.size := by simp
  have hle : w.heap.size ≤ w.heap.size + 1 := by omega
  have hne : w.heap.size + 1 ≠ w.heap.size := by omega
  clear hA
  go_enter Try.func29, Try.ntmps29
  go_upto_region 1 with fail
  obtain ⟨W0, hW0⟩ : ∃ W, W = (w.alloc (.cells #[.slice A d.cells.length c, .slice B d.waits.length e, .bool d.gone] 26)).alloc (.cells #[.slice none 0 0, .slice none 0 0, .bool false] 26) := ⟨_, rfl⟩
  rw [← hW0] at K0 s0 ⊢
  clear hW0
  have K1 := K0.drew
  have k0 := K0.one
  have k1 := K1.one
  have Ka : ∀ o, TwoB w w.heap.size (w.heap.size + 1) (.slice A d.cells.length c) (.slice B d.waits.length e) (.bool d.gone) (W0.alloc o).drew := fun o => (K0.alloc o).drew
  have Kb : ∀ o o2, TwoB w w.heap.size (w.heap.size + 1) (.slice A d.cells.length c) (.slice B d.waits.length e) (.bool d.gone) ((W0.alloc o).alloc o2).drew := fun o o2 => ((K0.alloc o).alloc o2).drew
  have M1 : ∀ (e : TypeId) (sz : Nat), (W0.alloc (.cells #[] e)).drew.ownsRow (w.heap.size + 1 + 1) e sz (.slice (some ⟨W0.heap.size, 0, none⟩) 0 0) 0 [] := fun e sz => World.ownsRow_made (e := e) (size := sz) W0 #[] 0 s0 (Nat.zero_le _) (by simp)
  have M2 : ∀ (e : TypeId) (sz : Nat) (o : Obj), ((W0.alloc (.cells #[] e)).alloc o).drew.ownsRow (w.heap.size + 1 + 1) e sz (.slice (some ⟨W0.heap.size, 0, none⟩) 0 0) 0 [] := fun e sz o => (World.ownsRow_made (e := e) (size := sz) W0 #[] 0 s0 (Nat.zero_le _) (by simp)).alloc o
  have M3 : ∀ (e : TypeId) (sz : Nat) (o : Obj), ((W0.alloc o).alloc (.cells #[] e)).drew.ownsRow (w.heap.size + 1 + 1) e sz (.slice (some ⟨W0.heap.size + 1, 0, none⟩) 0 0) 0 [] := fun e sz o => by
    have := World.ownsRow_made (e := e) (size := sz) (base := w.heap.size + 1 + 1) (W0.alloc o) #[] 0 (by rw [World.size_alloc]; omega) (Nat.zero_le _) (by simp)
    rw [World.size_alloc] at this
    exact this
  obtain ⟨x0, x1, x2, y0, y1, y2, f0, f1, f2, hg, hh, B0⟩ := id K0
  go_region_held_law (fun W => W.cell? ⟨w.heap.size, 0, none⟩ = some (.slice A d.cells.length c) ∧ W.cell? ⟨w.heap.size, 1, none⟩ = some (.slice B d.waits.length e) ∧ W.cell? ⟨w.heap.size, 2, none⟩ = some (.bool d.gone) ∧ Below w.heap.size w W)
    ((show OneB w w.heap.size (.slice A d.cells.length c) (.slice B d.waits.length e) (.bool d.gone) _; with_reducible (first | exact k0 | exact k1 | exact (Ka _).one | exact (Kb _ _).one | exact K2.one | exact (K2.alloc _).one | exact K3.one | exact OneB.box K3.one hle hne _ _ _)))
    (first
      | (refine step_append_lies2 _ rfl (.tmp 3) (.tmp 5) 23 rfl (w.heap.size + 1 + 1) 9 i0 (.string ⟨#[]⟩) 1 16 Try.underlying23 hi hz0 hz1 hz2 rfl (by decide) (.slice (some ⟨_, 0, none⟩) 0 0) _ _ rfl
          (by first | exact M1 9 1 | exact M2 9 1 _ | exact M3 9 1 _)
          A d.cells.length c (strCells d.cells) rfl (by rw [strCells_len, Nat.mul_one]) (by first | exact hS _ (Ka _).one.2.2.2 | exact hS _ (Kb _ _).one.2.2.2) (strCells_one d.cells) (by unfold maxLen; omega) (by omega) (by simp; omega) ?_
         intro v2 w2 o2 g2
         rw [Nat.zero_add, List.nil_append] at o2
         obtain ⟨A2, c2, rfl, _⟩ := own_lies o2
         have K2 := TwoB.grown (by first | exact Ka _ | exact Kb _ _) g2 (fun b e => by simp [Value.ownBlock] at e; omega)
         first
           | have O58 := own_past2 (M3 32 2 _) g2 (by simp [Value.ownBlock])
           | have O58 := own_past2 (M2 32 2 _) g2 (by simp [Value.ownBlock])
           | skip
         have b2 := g2.size
         clear g2)
      | (refine step_append_lies2 _ rfl (.tmp 7) (.tmp 9) 24 rfl (w.heap.size + 1 + 1) 32 j0 (.agg #[.int .i64 0, .string ⟨#[]⟩]) 2 24 Try.underlying24 hj hy0 hy1 hy2 rfl (by decide) (.slice (some ⟨_, 0, none⟩) 0 0) _ _ rfl
          (by first | exact O58 | exact World.ownsRow_made _ #[] 0 (by simp at b2; omega) (Nat.zero_le _) rfl)
          B d.waits.length e (wtCells d.waits) rfl (wtCells_len d.waits) (by first | exact hT _ K2.one.2.2.2 | exact hT _ (K2.alloc _).one.2.2.2) (wtCells_one d.waits) (by unfold maxLen; omega) (by omega) (by simp at b2; first | omega | (simp; omega)) ?_
         intro v3 w3 o3 g3
         rw [Nat.zero_add, List.nil_append] at o3
         obtain ⟨A3, c3, rfl, _⟩ := own_lies o3
         have p2 := World.ownsRow.kept (by first | exact o2 | exact o2.alloc _) g3 (by first | exact own_ne O58 o2 (by decide) | exact .inr (fun e => absurd (o2.lt _ e).2 (Nat.lt_irrefl _)))
         have K3 := TwoB.grown (by first | exact K2 | exact K2.alloc _) g3 (fun b e => by simp [Value.ownBlock] at e; simp at b2; omega)
         obtain ⟨z0, z1, z2, y0, y1, y2, f0, f1, f2, _⟩ := id K3))
  all_goals
    have ow : DkOwn w3 (w.heap.size + 1 + 1) (.agg #[.slice A2 d.cells.length c2, .slice A3 d.waits.length c3, .bool d.gone]) d := ⟨9, _, _, rfl, .inl rfl, p2, o3⟩
    have B3 := K3.one.2.2.2
    go_wp2_with fail
    exact bodyPost_ret (v := .agg #[.slice A2 d.cells.length c2, .slice A3 d.waits.length c3, .bool d.gone]) (by simp [results, Try.f29, go_sem, y0, y1, y2]) rfl ⟨_, _, _, _, rfl, (ow.box (R := w.heap.size + 1) (by omega) _ _ _).base (by omega), bel_box B3 hle _ _ _⟩
end Go.Proofs.Ytimpdjlgfjehcaa

namespace Go.Proofs.Ytimpdjlgfjehcaa
open Go.RowKit

theorem ofInt_i64 (a : Nat) (ha : a < 9223372036854775808) : (BitVec.ofInt 64 (a : Int)).toNat = a := by
  rw [BitVec.ofInt_natCast, BitVec.toNat_ofNat]; exact Nat.mod_eq_of_lt (by omega)
theorem i64_and_one (q : Int) (h0 : 0 ≤ q) (h1 : q ≤ 9223372036854775807) : bits .and .i64 q 1 = q % 2 := by
  obtain ⟨a, rfl⟩ : ∃ a : Nat, q = (a : Int) := ⟨q.toNat, by omega⟩
  show IntKind.i64.wrap ((BitVec.ofInt 64 (a : Int) &&& BitVec.ofInt 64 ((1 : Nat) : Int)).toNat : Int) = _
  rw [BitVec.toNat_and, ofInt_i64 a (by omega), ofInt_i64 1 (by omega), IntKind.wrap_i64, Nat.and_one_is_mod]
  omega

set_option maxRecDepth 100000 in
set_option maxHeartbeats 2000000 in
theorem mask_has (mask : Int) (i : Nat) (w : World) (h0 : 0 ≤ mask) (h1 : mask ≤ 9223372036854775807) (hi : i ≤ 1000) :
    Calls Try.prog 43 #[.int .i64 mask, .int .i64 i] w fun r w' => r = .returned (.bool (bitM mask i)) ∧ w = w' := by
  obtain ⟨k, hk⟩ : ∃ k, k = i % 60 := ⟨_, rfl⟩
  have hk60 : k < 60 := by omega
  obtain ⟨q, hq⟩ : ∃ q, q = mask / 2 ^ k := ⟨_, rfl⟩
  have hp : (1 : Int) ≤ 2 ^ k := by
    have := Nat.one_le_two_pow (n := k)
    have e : ((2 ^ k : Nat) : Int) = (2 : Int) ^ k := by simp
    omega
  have hq0 : 0 ≤ q := by rw [hq]; exact Int.ediv_nonneg h0 (by omega)
  have hq1 : q ≤ 9223372036854775807 := by
    have : q ≤ mask := by rw [hq]; exact Int.ediv_le_self _ h0
    omega
  have hb : bitM mask i = decide (q % 2 = 1) := by unfold bitM; rw [← hk, ← hq]
  have ht : (i : Int).tmod 60 = (k : Int) := by rw [hk, Int.tmod_eq_emod_of_nonneg (by omega)]; rfl
  have hm : (i : Int) % 60 = (k : Int) := by rw [hk]; rfl
  have hs : mask / 2 ^ ((k : Int)).toNat = q := by rw [Int.toNat_natCast, hq]
  have ha := i64_and_one q hq0 hq1
  have hs2 := hq.symm
  rw [hb]
  have hkk : (k : Int) ≤ 64 := by omega
  clear hk hq hp hb
  by_cases h2 : q % 2 = 1
  · have h3 : decide (q % 2 = 1) = true := by simpa using h2
    rw [h3]
    go_enter Try.func43, Try.ntmps43
    go_wp2
    go_ret
    exact ⟨by simp [*], rfl⟩
  · have h3 : decide (q % 2 = 1) = false := by simpa using h2
    rw [h3]
    go_enter Try.func43, Try.ntmps43
    go_wp2
    go_ret
    exact ⟨by simp [*], rfl⟩

theorem ext_list (s : ByteArray) (k : Nat) : (s.extract k s.size).data.toList = s.data.toList.drop k := by
  have h : (s.extract k s.size).data = s.data.extract k s.size := by simp
  rw [h, Array.toList_extract]
  simp only [List.extract_eq_take_drop]
  exact List.take_of_length_le (by simp)
theorem ext_head (s : ByteArray) (k : Nat) : (s.extract 0 k).data.toList = s.data.toList.take k := by
  have h : (s.extract 0 k).data = s.data.extract 0 k := by simp
  rw [h, Array.toList_extract]
  simp [List.extract_eq_take_drop]
theorem ext_size (s : ByteArray) (k : Nat) : (s.extract k s.size).size = s.size - k := by
  have h := congrArg List.length (ext_list s k)
  rw [List.length_drop, Array.length_toList, Array.length_toList] at h
  exact h
theorem ext_hsize (s : ByteArray) (k : Nat) : (s.extract 0 k).size = min k s.size := by
  have h := congrArg List.length (ext_head s k)
  rw [List.length_take, Array.length_toList, Array.length_toList] at h
  exact h
theorem torn_ext (old text : ByteArray) (k : Nat) (hk : k = text.size / 2) : text.extract 0 k ++ old.extract k old.size = torn old text := by
  apply bytes_inj
  subst hk
  unfold torn
  rw [strOf_toList, ByteArray.data_append, Array.toList_append, ext_head, ext_list]
theorem torn_short (old text : ByteArray) (k : Nat) (hk : k = text.size / 2) (h : old.size ≤ k) : text.extract 0 k = torn old text := by
  apply bytes_inj
  subst hk
  unfold torn
  rw [strOf_toList, ext_head, List.drop_of_length_le (by rw [Array.length_toList]; exact h), List.append_nil]

set_option maxRecDepth 100000 in
set_option maxHeartbeats 2000000 in
theorem spec_torn (old text : ByteArray) (w : World) (h1 : old.size ≤ 200) (h2 : text.size ≤ 200) :
    Calls Try.prog 45 #[.string old, .string text] w fun r w' => r = .returned (.string (torn old text)) ∧ Below w.heap.size w w' := by
  obtain ⟨k, hk⟩ : ∃ k, k = text.size / 2 := ⟨_, rfl⟩
  have hd : (text.size : Int).tdiv 2 = (k : Int) := by rw [hk, Int.tdiv_eq_ediv_of_nonneg (by omega)]; rfl
  have hd2 : (text.size : Int) / 2 = (k : Int) := by rw [hk]; rfl
  have hw := IntWalk.i64_in (k : Int) (by omega)
  have hk2 : k ≤ text.size := by omega
  have hk3 : k ≤ 100 := by omega
  have hk2' : (k : Int) ≤ (text.size : Int) := by omega
  by_cases hb : k < old.size
  · have hb1 : (k : Int) < (old.size : Int) := by omega
    have hb2 : (k : Int) ≤ (old.size : Int) := by omega
    have hadd := fun w => run_string_add_sum (P := Try.prog) w (text.extract 0 k) (old.extract k old.size) (by rw [ext_hsize, ext_size]; omega)
    rw [torn_ext old text k hk] at hadd
    clear hk
    go_enter Try.func45, Try.ntmps45
    go_wp2_with fail
    go_quiet (fail)
    go_wp2_with fail
    go_ret
    exact ⟨rfl, below_drewN (Below.refl _ _) _⟩
  · have hb1 : ¬ (k : Int) < (old.size : Int) := by omega
    have hs := torn_short old text k hk (by omega)
    have HS := Lib.hid hs
    clear hk hs
    go_enter Try.func45, Try.ntmps45
    go_wp2_with fail
    go_ret
    exact ⟨by rw [← HS.out]; rfl, Below.refl _ _⟩

set_option maxRecDepth 100000 in
set_option maxHeartbeats 2000000 in
theorem impl_torn (old text : ByteArray) (w : World) (h1 : old.size ≤ 200) (h2 : text.size ≤ 200) :
    Calls Try.prog 44 #[.string text, .string old] w fun r w' => r = .returned (.string (torn old text)) ∧ Below w.heap.size w w' := by
  obtain ⟨k, hk⟩ : ∃ k, k = text.size / 2 := ⟨_, rfl⟩
  have hd : (text.size : Int).tdiv 2 = (k : Int) := by rw [hk, Int.tdiv_eq_ediv_of_nonneg (by omega)]; rfl
  have hd2 : (text.size : Int) / 2 = (k : Int) := by rw [hk]; rfl
  have hw := IntWalk.i64_in (k : Int) (by omega)
  have hk2 : k ≤ text.size := by omega
  have hk3 : k ≤ 100 := by omega
  have hk2' : (k : Int) ≤ (text.size : Int) := by omega
  by_cases hb : k ≤ old.size
  · have hb2 : (k : Int) ≤ (old.size : Int) := by omega
    have hadd := fun w => run_string_add_sum (P := Try.prog) w (text.extract 0 k) (old.extract k old.size) (by rw [ext_hsize, ext_size]; omega)
    rw [torn_ext old text k hk] at hadd
    have hmin : min (k : Int) (old.size : Int) = (k : Int) := by omega
    clear hk
    go_enter Try.func44, Try.ntmps44
    go_wp2_with fail
    go_quiet (fail)
    go_wp2_with fail
    go_ret
    exact ⟨rfl, below_drewN (Below.refl _ _) _⟩
  · have hb2 : (old.size : Int) < (k : Int) := by omega
    have HS := Lib.hid (torn_short old text k hk (by omega))
    have hmin : min (k : Int) (old.size : Int) = (old.size : Int) := by omega
    clear hk
    go_enter Try.func44, Try.ntmps44
    go_wp2_with fail
    go_quiet (fail)
    go_wp2_with fail
    go_ret
    exact ⟨by rw [← HS.out]; rfl, below_drewN (Below.refl _ _) _⟩
end Go.Proofs.Ytimpdjlgfjehcaa
