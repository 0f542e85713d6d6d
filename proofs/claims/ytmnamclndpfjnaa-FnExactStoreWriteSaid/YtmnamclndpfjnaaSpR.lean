/-
  The model's room.
-/
import Derived.Test.YtmnamclndpfjnaaSpO
namespace Go.Proofs.Ytmnamclndpfjnaa
open Go.RowKit

def cz (U : Us) (k : Nat) : Nat := ((U.take k).filter fun u => decide (u ≠ (0, 0))).length
theorem cz_succ {U : Us} {k : Nat} (h : k < U.length) : cz U (k + 1) = cz U k + (if U.getD k (0, 0) = (0, 0) then 0 else 1) := by
  unfold cz
  rw [List.take_succ_eq_append_getElem h, List.filter_append, List.length_append, List.getD_eq_getElem?_getD, List.getElem?_eq_getElem h]
  congr 1
  by_cases e : U[k] = (0, 0) <;> simp [e]
theorem cz_all {U : Us} (h : U.length = 64) : cz U 64 = cntU U := by
  unfold cz cntU
  rw [List.take_of_length_le (by omega)]
theorem cz_low {s : Sp} (h : SpOk s) : ∀ k, k ≤ 8 → cz (usOf s) k = 0
  | 0, _ => by simp [cz]
  | k + 1, hk => by
    rw [cz_succ (by rw [usOf_len h.1 h.2.1]; omega), cz_low h k (by omega)]
    rcases h.2.2 k (by omega) with ⟨a, b⟩ | ⟨a, _⟩
    · rw [if_pos (Prod.ext a b)]
    · omega
theorem cz_le {U : Us} (k : Nat) (h : cz U 8 = 0) (hU : U.length = 64) (h8 : 8 ≤ k) (hk : k ≤ 64) : cz U k ≤ k - 8 := by
  induction k with
  | zero => omega
  | succ k ih =>
    by_cases h9 : k + 1 = 8
    · rw [h9, h]; omega
    · rw [cz_succ (by omega)]
      have := ih (by omega) (by omega)
      split <;> omega
theorem zero_iff {s : Sp} (h : SpOk s) {k : Nat} (hk : k < 64) {x y : Int} (hu : (usOf s).getD k (0, 0) = (x, y)) : x = 0 ↔ (x, y) = ((0, 0) : Int × Int) := by
  have := h.2.2 k hk
  rw [hu] at this
  rcases this with ⟨a, b⟩ | ⟨_, a, _, _⟩
  · simp only at a b
    exact ⟨fun _ => by rw [a, b], fun _ => a⟩
  · simp only at a
    exact ⟨fun e => by omega, fun e => by cases e; omega⟩

set_option maxRecDepth 100000 in
set_option maxHeartbeats 4000000 in
theorem spec_room (A B : Option Addr) (c e : Nat) (s : Sp) (w : World) (hn : s.refs.length ≤ 1048576) (hm : s.last.length ≤ 1048576) (hA : SpAt w A B s) :
    Calls Try.prog 71 #[.agg #[.slice A s.refs.length c, .slice B s.last.length e]] w fun r w' => r = .returned (.int .i64 (roomS s)) ∧ Below w.heap.size w w' := by
  have BB := bel_new (Below.refl w.heap.size w) (.cells #[.slice A s.refs.length c, .slice B s.last.length e] 25)
  have b0 := B2.new w 25 (.slice A s.refs.length c) (.slice B s.last.length e)
  have hU := spec_ok A B c e s _ hn hm (hA.below BB)
  by_cases hs : SpOk s
  · rw [okS_yes hs] at hU
    have hroom : roomS s = 56 - (cntU (usOf s) : Int) := by simp [roomS, hs]
    rw [hroom]
    have hUl := usOf_len hs.1 hs.2.1
    have hz8 := cz_low hs 8 (by omega)
    have hzi := fun k (hk : k < 64) x y hu => zero_iff hs hk (x := x) (y := y) hu
    have hat := fun k (hk : k < 64) => usOf_at hs.1 hs.2.1 k hk
    obtain ⟨h1, h2, _⟩ := hs
    obtain ⟨hA1, _⟩ := hA
    obtain ⟨rs, hrs⟩ : ∃ rs, rs = s.refs := ⟨_, rfl⟩
    obtain ⟨U, hUU⟩ : ∃ U, U = usOf s := ⟨_, rfl⟩
    rw [← hUU] at hUl hz8 ⊢
    simp only [← hUU, ← hrs] at hzi hat
    rw [← hrs] at hA1
    have H1 : Hid (rs.length = 64) := Lib.hid (by rw [hrs]; exact h1)
    rw [h1, h2] at hU BB b0
    rw [h1, h2]
    have HU := Lib.hid hUl
    have HZ8 := Lib.hid hz8
    have HZI := Lib.hid hzi
    have HAT := Lib.hid hat
    clear hUl hz8 hzi hat hrs hUU hn hm hroom h1 h2
    go_enter Try.func71, Try.ntmps71
    go_wp2_with (go_at_call 48; refine hU.mono ?_; rintro r w2 ⟨rfl, hb2⟩)
    go_loopw [3, 4] (fun n i wr => ∃ k : Nat, 8 ≤ k ∧ k ≤ 64 ∧ i = .int .i64 k ∧ n = .int .i64 ((k : Int) - 8 - (cz U k : Int)) ∧ Below w.heap.size w wr ∧ B2 wr w.heap.size 25 (.slice A 64 c) (.slice B 64 e)) (fun _ i _ => 64 - (intOf i).toNat)
    case atStart => exact ⟨8, by omega, by omega, rfl, by rw [HZ8.out]; rfl, bel_then BB hb2, b0.below hb2⟩
    case round =>
      clear hU BB b0 hb2
      obtain ⟨k, h8, hk, rfl, rfl, hB, hb⟩ := hrel
      by_cases hlt : k < 64
      · obtain ⟨b1, o1, rfl, hl1, hc1⟩ := (hA1.below hB).int k (by have := H1.out; omega)
        obtain ⟨x, hx⟩ : ∃ x, x = rs[k]'(by have := H1.out; omega) := ⟨_, rfl⟩
        have hu : ∃ y, U.getD k (0, 0) = (x, y) := ⟨_, by rw [HAT.out k hlt, List.getD_eq_getElem?_getD, List.getElem?_eq_getElem (by have := H1.out; omega : k < rs.length), hx]; rfl⟩
        obtain ⟨y, hu⟩ := hu
        have hz := HZI.out k hlt x y hu
        have hle := cz_le k HZ8.out HU.out h8 hk
        have hcs := cz_succ (U := U) (k := k) (by rw [HU.out]; exact hlt)
        rw [hu] at hcs
        rw [← hx] at hc1
        obtain ⟨q, hq⟩ : ∃ q, q = cz U k := ⟨_, rfl⟩
        rw [← hq] at hle
        have hwl := hb.lt
        obtain ⟨⟨x0, x1⟩, _, _⟩ := hb.cells
        by_cases h0 : x = 0
        · have hq0 : (x == 0) = true := by simpa using h0
          rw [if_pos (hz.1 h0), ← hq] at hcs
          rw [← hq]
          have HC := Lib.hid hcs
          clear hcs hz hu hx h0 hq hA1
          go_wp2_with fail
          go_roundw
          case rel => exact ⟨k + 1, by omega, by omega, by go_num, by rw [HC.out]; go_num, hB, hb⟩
          case measure => simp [intOf]; omega
        · have hq0 : (x == 0) = false := by simpa using h0
          rw [if_neg (fun e => h0 (hz.2 e)), ← hq] at hcs
          rw [← hq]
          have HC := Lib.hid hcs
          clear hcs hz hu hx h0 hq hA1
          go_wp2_with fail
          go_roundw
          case rel => exact ⟨k + 1, by omega, by omega, by go_num, by rw [HC.out]; go_num, hB, hb⟩
          case measure => simp [intOf]; omega
      · have hke : k = 64 := by omega
        subst hke
        rw [cz_all HU.out]
        go_wp2_with fail
        go_ret
        exact ⟨by simp, hB⟩
  · rw [okS_no hs] at hU
    have hroom : roomS s = -1 := by simp [roomS, hs]
    rw [hroom]
    obtain ⟨n, hn'⟩ : ∃ n, n = s.refs.length := ⟨_, rfl⟩
    obtain ⟨m, hm'⟩ : ∃ m, m = s.last.length := ⟨_, rfl⟩
    rw [← hn', ← hm'] at hU BB b0 ⊢
    clear hn' hm' hn hm hs hA hroom
    go_enter Try.func71, Try.ntmps71
    go_wp2_with (go_at_call 48; refine hU.mono ?_; rintro r w2 ⟨rfl, hb2⟩)
    go_ret
    exact ⟨rfl, bel_then BB hb2⟩
end Go.Proofs.Ytmnamclndpfjnaa
