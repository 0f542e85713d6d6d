/-
  Whether a disk is valid, as the model asks it.
-/
import Derived.Test.YtadgknkheachaaaMarkD
namespace Go.Proofs.Ytadgknkheachaaa
open Go.RowKit

def cellB (n : Int) : Bool := decide (0 ≤ n ∧ n ≤ 63)
theorem cellB_yes {n : Int} (h : 0 ≤ n ∧ n ≤ 63) : cellB n = true := by simp [cellB, h]
theorem cellB_no {n : Int} (h : ¬ (0 ≤ n ∧ n ≤ 63)) : cellB n = false := by simp [cellB]; omega
def fitB (s : ByteArray) : Bool := decide (s.size ≤ 200)

theorem s_in (n : Int) (w : World) : Calls Try.prog 83 #[.int .i64 n, .int .i64 0, .int .i64 63] w fun e w' => e = .returned (.bool (cellB n)) ∧ w = w' := by
  by_cases h : 0 ≤ n ∧ n ≤ 63
  · rw [cellB_yes h]
    obtain ⟨h1, h2⟩ := h
    go_enter Try.func83, Try.ntmps83
    go_wp2
    go_ret
    exact ⟨rfl, rfl⟩
  · rw [cellB_no h]
    by_cases h1 : 0 ≤ n
    · have h2 : ¬ n ≤ 63 := fun k => h ⟨h1, k⟩
      clear h
      go_enter Try.func83, Try.ntmps83
      go_wp2
      go_ret
      exact ⟨rfl, rfl⟩
    · clear h
      go_enter Try.func83, Try.ntmps83
      go_wp2
      go_ret
      exact ⟨rfl, rfl⟩
theorem i_in (n : Int) (w : World) : Calls Try.prog 86 #[.int .i64 n, .int .i64 0, .int .i64 63] w fun e w' => e = .returned (.bool (cellB n)) ∧ w = w' := by
  by_cases h : 0 ≤ n ∧ n ≤ 63
  · rw [cellB_yes h]
    obtain ⟨h1, h2⟩ := h
    go_enter Try.func86, Try.ntmps86
    go_wp2
    go_ret
    exact ⟨rfl, rfl⟩
  · rw [cellB_no h]
    by_cases h1 : 0 ≤ n
    · have h2 : ¬ n ≤ 63 := fun k => h ⟨h1, k⟩
      clear h
      go_enter Try.func86, Try.ntmps86
      go_wp2
      go_ret
      exact ⟨rfl, rfl⟩
    · clear h
      go_enter Try.func86, Try.ntmps86
      go_wp2
      go_ret
      exact ⟨rfl, rfl⟩
theorem s_cell (n : Int) (w : World) : Calls Try.prog 60 #[.int .i64 n] w fun e w' => e = .returned (.bool (cellB n)) ∧ w = w' := by
  have hI := fun w => s_in n w
  go_enter Try.func60, Try.ntmps60
  go_wp2_with (go_at_call 83; refine (hI _).mono ?_; rintro e w' ⟨rfl, rfl⟩)
  go_ret
  exact ⟨rfl, rfl⟩
theorem i_cell (n : Int) (w : World) : Calls Try.prog 65 #[.int .i64 n] w fun e w' => e = .returned (.bool (cellB n)) ∧ w = w' := by
  have hI := fun w => i_in n w
  go_enter Try.func65, Try.ntmps65
  go_wp2_with (go_at_call 86; refine (hI _).mono ?_; rintro e w' ⟨rfl, rfl⟩)
  go_ret
  exact ⟨rfl, rfl⟩
theorem i_fits (s : ByteArray) (w : World) (hs : s.size ≤ maxLen) : Calls Try.prog 85 #[.string s] w fun e w' => e = .returned (.bool (fitB s)) ∧ w = w' := by
  unfold maxLen at hs
  by_cases h : s.size ≤ 200
  · have e : fitB s = true := by simp [fitB, h]
    have h' : (s.size : Int) ≤ 200 := by omega
    rw [e]
    go_enter Try.func85, Try.ntmps85
    go_wp2
    go_ret
    exact ⟨rfl, rfl⟩
  · have e : fitB s = false := by simp [fitB]; omega
    have h' : ¬ (s.size : Int) ≤ 200 := by omega
    rw [e]
    go_enter Try.func85, Try.ntmps85
    go_wp2
    go_ret
    exact ⟨rfl, rfl⟩

theorem str_nil {x : ByteArray} (h : x.size = 0) : x.toList = [] := by
  rw [ByteArray.toList_eq]
  exact List.eq_nil_of_length_eq_zero (by rw [Array.length_toList]; exact h)
theorem str_some {x : ByteArray} (h : ¬ x.size = 0) : ¬ x.toList = [] := fun e => h (by
  rw [ByteArray.toList_eq] at e
  have := congrArg List.length e
  rw [Array.length_toList] at this
  exact this)

structure Bulk (d : Dk) : Prop where
  cells : d.cells.length ≤ 1048576
  waits : d.waits.length ≤ 1048576
  texts : ∀ s ∈ d.cells, s.size ≤ maxLen
  wtexts : ∀ x ∈ d.waits, x.text.size ≤ maxLen

def OkPost (d : Dk) (w : World) (e : Ending) (w' : World) : Prop := e = .returned (.bool (okD d)) ∧ Below w.heap.size w w'
theorem OkPost.no {d : Dk} {w w' : World} (h : ¬ DkOk d) (hb : Below w.heap.size w w') : OkPost d w (.returned (.bool false)) w' := ⟨by rw [okD_no h], hb⟩

set_option maxRecDepth 100000 in
set_option maxHeartbeats 2000000 in
theorem spec_ok_live (A B : Option Addr) (c e : Nat) (cs : List ByteArray) (ws : List Wt) (w : World) (hd : Bulk ⟨cs, ws, false⟩) (h : DkAt w A B ⟨cs, ws, false⟩) (h64 : cs.length = 64) (h120 : ws.length ≤ 120) :
    Calls Try.prog 28 #[.agg #[.slice A cs.length c, .slice B ws.length e, .bool false]] w (OkPost ⟨cs, ws, false⟩ w) := by
  obtain ⟨hn, hm, hs, ht⟩ := hd
  obtain ⟨l1, l2⟩ := h
  have hC := fun n w => s_cell n w
  simp only at hn hm hs ht l1 l2
  have a1 : ((cs.length : Int) != 64) = false := by rw [h64]; rfl
  have a2 : ¬ (120 : Int) < (ws.length : Int) := by omega
  skip
  have H64 := Lib.hid h64
  clear h64
  go_enter Try.func28, Try.ntmps28
  go_wp2
  go_loop [3] (fun i => ∃ k : Nat, k ≤ cs.length ∧ i = .int .i64 k ∧ ∀ j (h : j < cs.length), j < k → cs[j].size ≤ 200) (fun i => cs.length - (intOf i).toNat)
  case atStart => exact ⟨0, Nat.zero_le _, rfl, fun j _ h => absurd h (by omega)⟩
  case round =>
    obtain ⟨k, hk, rfl, hok⟩ := hrel
    have HOK := Lib.hid hok
    clear hok
    by_cases hlt : k < cs.length
    · obtain ⟨b, off, rfl, hlb, hck⟩ := l1.str k hlt
      have hsk := hs cs[k] (by simp)
      unfold maxLen at hsk
      obtain ⟨x, hx⟩ : ∃ x, x = cs[k] := ⟨_, rfl⟩
      rw [← hx] at hck hsk
      have hlt' : (k : Int) < (cs.length : Int) := by omega
      by_cases h2 : x.size ≤ 200
      · have h2' : ¬ (200 : Int) < (x.size : Int) := by omega
        have HX : Hid (cs[k].size ≤ 200) := Lib.hid (by rw [← hx]; exact h2)
        clear hx h2
        go_wp2_with fail
        go_round
        case rel => exact ⟨k + 1, by omega, by go_num, fun j hj hjk => by
          by_cases ej : j = k
          · subst ej; exact HX.out
          · exact HOK.out j hj (by omega)⟩
        case measure => simp [intOf]; omega
      · have h2' : (200 : Int) < (x.size : Int) := by omega
        have hno : ¬ DkOk ⟨cs, ws, false⟩ := fun h => h2 (by rw [hx]; exact h.2.2.2.1 _ (by simp))
        have HN := Lib.hid hno
        clear hno hx h2
        go_wp2_with fail
        go_ret
        exact OkPost.no HN.out (bel_new (Below.refl _ _) _)
    · have hke : k = cs.length := by omega
      subst hke
      go_wp2_with fail
      go_loop [4] (fun i => ∃ k : Nat, k ≤ ws.length ∧ i = .int .i64 k ∧ ∀ j (h : j < ws.length), j < k → WtOk ws[j]) (fun i => ws.length - (intOf i).toNat)
      case atStart => exact ⟨0, Nat.zero_le _, rfl, fun j _ h => absurd h (by omega)⟩
      case round =>
        obtain ⟨k, hk, rfl, hok⟩ := hrel
        have HW := Lib.hid hok
        clear hok
        by_cases hlt : k < ws.length
        · obtain ⟨b, off, rfl, hlb, y0, y1⟩ := l2.wt k hlt
          have hsk := ht ws[k] (by simp)
          unfold maxLen at hsk
          obtain ⟨x, hx⟩ : ∃ x, x = ws[k].text := ⟨_, rfl⟩
          obtain ⟨n, hn'⟩ : ∃ n, n = ws[k].num := ⟨_, rfl⟩
          rw [← hx] at y1 hsk
          rw [← hn'] at y0
          have hlt' : (k : Int) < (ws.length : Int) := by omega
          have hC1 := fun w => hC n w
          clear hC
          by_cases h1 : 0 ≤ n ∧ n ≤ 63
          · rw [cellB_yes h1] at hC1
            by_cases h2 : x.size ≤ 200
            · have h2' : ¬ (200 : Int) < (x.size : Int) := by omega
              have HX : Hid (WtOk ws[k]) := Lib.hid ⟨by rw [← hn']; exact h1.1, by rw [← hn']; exact h1.2, by rw [← hx]; exact h2⟩
              clear hx hn' h1 h2
              go_wp2_with (go_at_call 60; refine (hC1 _).mono ?_; rintro e w' ⟨rfl, rfl⟩)
              go_round
              case rel => exact ⟨k + 1, by omega, by go_num, fun j hj hjk => by
                by_cases ej : j = k
                · subst ej; exact HX.out
                · exact HW.out j hj (by omega)⟩
              case measure => simp [intOf]; omega
            · have h2' : (200 : Int) < (x.size : Int) := by omega
              have hno : ¬ DkOk ⟨cs, ws, false⟩ := fun h => h2 (by rw [hx]; exact (h.2.2.2.2 _ (by simp : ws[k] ∈ ws)).2.2)
              have HN := Lib.hid hno
              clear hno hx hn' h1 h2
              go_wp2_with (go_at_call 60; refine (hC1 _).mono ?_; rintro e w' ⟨rfl, rfl⟩)
              go_ret
              exact OkPost.no HN.out (bel_new (Below.refl _ _) _)
          · rw [cellB_no h1] at hC1
            have hno : ¬ DkOk ⟨cs, ws, false⟩ := fun h => h1 (by have := h.2.2.2.2 _ (by simp : ws[k] ∈ ws); rw [hn']; exact ⟨this.1, this.2.1⟩)
            have HN := Lib.hid hno
            clear hno hx hn' h1
            go_wp2_with (go_at_call 60; refine (hC1 _).mono ?_; rintro e w' ⟨rfl, rfl⟩)
            go_ret
            exact OkPost.no HN.out (bel_new (Below.refl _ _) _)
        · have hke : k = ws.length := by omega
          subst hke
          have hyes : okD ⟨cs, ws, false⟩ = true := by
            rw [okD_iff]
            refine ⟨H64.out, h120, fun h => absurd (show false = true from h) (by decide), fun s hs => ?_, fun x hx => ?_⟩
            · obtain ⟨j, hj, rfl⟩ := List.getElem_of_mem hs
              exact HOK.out j hj hj
            · obtain ⟨j, hj, rfl⟩ := List.getElem_of_mem hx
              exact HW.out j hj hj
          have HY := Lib.hid hyes
          clear hyes
          go_wp2_with fail
          go_ret
          exact ⟨by rw [HY.out]; rfl, bel_new (Below.refl _ _) _⟩

set_option maxRecDepth 100000 in
set_option maxHeartbeats 2000000 in
theorem spec_ok_gone (A B : Option Addr) (c e : Nat) (cs : List ByteArray) (ws : List Wt) (w : World) (hd : Bulk ⟨cs, ws, true⟩) (h : DkAt w A B ⟨cs, ws, true⟩) (h64 : cs.length = 64) (h120 : ws.length ≤ 120) (hz : ws.length = 0) :
    Calls Try.prog 28 #[.agg #[.slice A cs.length c, .slice B ws.length e, .bool true]] w (OkPost ⟨cs, ws, true⟩ w) := by
  obtain ⟨hn, hm, hs, ht⟩ := hd
  obtain ⟨l1, l2⟩ := h
  have hC := fun n w => s_cell n w
  simp only at hn hm hs ht l1 l2
  have a1 : ((cs.length : Int) != 64) = false := by rw [h64]; rfl
  have a2 : ¬ (120 : Int) < (ws.length : Int) := by omega
  have a3 : ¬ (0 : Int) < (ws.length : Int) := by omega
  have HZ := Lib.hid hz
  clear hz
  have H64 := Lib.hid h64
  clear h64
  go_enter Try.func28, Try.ntmps28
  go_wp2
  go_loop [3] (fun i => ∃ k : Nat, k ≤ cs.length ∧ i = .int .i64 k ∧ ∀ j (h : j < cs.length), j < k → cs[j].size ≤ 200 ∧ cs[j].size = 0) (fun i => cs.length - (intOf i).toNat)
  case atStart => exact ⟨0, Nat.zero_le _, rfl, fun j _ h => absurd h (by omega)⟩
  case round =>
    obtain ⟨k, hk, rfl, hok⟩ := hrel
    have HOK := Lib.hid hok
    clear hok
    by_cases hlt : k < cs.length
    · obtain ⟨b, off, rfl, hlb, hck⟩ := l1.str k hlt
      have hsk := hs cs[k] (by simp)
      unfold maxLen at hsk
      obtain ⟨x, hx⟩ : ∃ x, x = cs[k] := ⟨_, rfl⟩
      rw [← hx] at hck hsk
      have hlt' : (k : Int) < (cs.length : Int) := by omega
      by_cases h2 : x.size ≤ 200
      · have h2' : ¬ (200 : Int) < (x.size : Int) := by omega
        by_cases h3 : x.size = 0
        · have h3' : x.toList = [] := str_nil h3
          have h4' : (!x.toList.isEmpty) = false := by rw [h3']; rfl
          have HX : Hid (cs[k].size ≤ 200 ∧ cs[k].size = 0) := Lib.hid ⟨by rw [← hx]; exact h2, by rw [← hx]; exact h3⟩
          clear hx h2 h3
          go_wp2_with fail
          go_round
          case rel => exact ⟨k + 1, by omega, by go_num, fun j hj hjk => by
            by_cases ej : j = k
            · subst ej; exact HX.out
            · exact HOK.out j hj (by omega)⟩
          case measure => simp [intOf]; omega
        · have h3' : ¬ x.toList = [] := str_some h3
          have h4' : (!x.toList.isEmpty) = true := by simpa using h3'
          have hno : ¬ DkOk ⟨cs, ws, true⟩ := fun h => h3 (by rw [hx]; exact (h.2.2.1 rfl).2 _ (by simp))
          have HN := Lib.hid hno
          clear hno hx h2 h3
          go_wp2_with fail
          go_ret
          exact OkPost.no HN.out (bel_new (Below.refl _ _) _)
      · have h2' : (200 : Int) < (x.size : Int) := by omega
        have hno : ¬ DkOk ⟨cs, ws, true⟩ := fun h => h2 (by rw [hx]; exact h.2.2.2.1 _ (by simp))
        have HN := Lib.hid hno
        clear hno hx h2
        go_wp2_with fail
        go_ret
        exact OkPost.no HN.out (bel_new (Below.refl _ _) _)
    · have hke : k = cs.length := by omega
      subst hke
      go_wp2_with fail
      go_loop [4] (fun i => ∃ k : Nat, k ≤ ws.length ∧ i = .int .i64 k ∧ ∀ j (h : j < ws.length), j < k → WtOk ws[j]) (fun i => ws.length - (intOf i).toNat)
      case atStart => exact ⟨0, Nat.zero_le _, rfl, fun j _ h => absurd h (by omega)⟩
      case round =>
        obtain ⟨k, hk, rfl, hok⟩ := hrel
        have HW := Lib.hid hok
        clear hok
        by_cases hlt : k < ws.length
        · have := HZ.out
          omega
        · have hke : k = ws.length := by omega
          subst hke
          have hyes : okD ⟨cs, ws, true⟩ = true := by
            rw [okD_iff]
            refine ⟨H64.out, h120, fun _ => ⟨HZ.out, fun s hs => by
              obtain ⟨j, hj, rfl⟩ := List.getElem_of_mem hs
              exact (HOK.out j hj hj).2⟩, fun s hs => ?_, fun x hx => ?_⟩
            · obtain ⟨j, hj, rfl⟩ := List.getElem_of_mem hs
              exact (HOK.out j hj hj).1
            · obtain ⟨j, hj, rfl⟩ := List.getElem_of_mem hx
              exact HW.out j hj hj
          have HY := Lib.hid hyes
          clear hyes
          go_wp2_with fail
          go_ret
          exact ⟨by rw [HY.out]; rfl, bel_new (Below.refl _ _) _⟩

set_option maxRecDepth 100000 in
set_option maxHeartbeats 2000000 in
theorem spec_ok (A B : Option Addr) (c e : Nat) (d : Dk) (w : World) (hd : Bulk d) (h : DkAt w A B d) :
    Calls Try.prog 28 #[.agg #[.slice A d.cells.length c, .slice B d.waits.length e, .bool d.gone]] w (OkPost d w) := by
  obtain ⟨cs, ws, g⟩ := d
  show Calls Try.prog 28 #[.agg #[.slice A cs.length c, .slice B ws.length e, .bool g]] w (OkPost ⟨cs, ws, g⟩ w)
  by_cases h64 : cs.length = 64
  · by_cases h120 : ws.length ≤ 120
    · cases g
      · exact spec_ok_live A B c e cs ws w hd h h64 h120
      · by_cases hz : ws.length = 0
        · exact spec_ok_gone A B c e cs ws w hd h h64 h120 hz
        · have hno : ¬ DkOk ⟨cs, ws, true⟩ := fun h => hz (h.2.2.1 rfl).1
          have a1 : ((cs.length : Int) != 64) = false := by rw [h64]; rfl
          have a2 : ¬ (120 : Int) < (ws.length : Int) := by omega
          have a3 : (0 : Int) < (ws.length : Int) := by omega
          have HN := Lib.hid hno
          clear hno h64 h hd hz
          go_enter Try.func28, Try.ntmps28
          go_wp2
          go_ret
          exact OkPost.no HN.out (bel_new (Below.refl _ _) _)
    · have hno : ¬ DkOk ⟨cs, ws, g⟩ := fun h => h120 h.2.1
      have a1 : ((cs.length : Int) != 64) = false := by rw [h64]; rfl
      have a2 : (120 : Int) < (ws.length : Int) := by omega
      have HN := Lib.hid hno
      clear hno h64 h hd h120
      go_enter Try.func28, Try.ntmps28
      go_wp2
      go_ret
      exact OkPost.no HN.out (bel_new (Below.refl _ _) _)
  · have hno : ¬ DkOk ⟨cs, ws, g⟩ := fun h => h64 h.1
    have a1 : ((cs.length : Int) != 64) = true := by simp; omega
    have HN := Lib.hid hno
    clear hno h64 h hd
    go_enter Try.func28, Try.ntmps28
    go_wp2
    go_ret
    exact OkPost.no HN.out (bel_new (Below.refl _ _) _)
end Go.Proofs.Ytadgknkheachaaa
