/-
  The search for a free row.
-/
import Derived.Test.YtmnamclndpfjnaaSpR
import Derived.Test.YtmnamclndpfjnaaImB
namespace Go.Proofs.Ytmnamclndpfjnaa
open Go.RowKit

def inL (xs : List Int) (n : Int) : Bool := decide (n ∈ xs)
theorem not_head {xs : List Int} {n : Int} (h : ∀ j (hj : j < xs.length), xs[j] ≠ n) : inL xs n = false := by
  simp only [inL, decide_eq_false_iff_not]
  intro hm
  obtain ⟨j, hj, e⟩ := List.getElem_of_mem hm
  exact h j hj e

set_option maxHeartbeats 1000000 in
theorem s_list (A : Option Addr) (c : Nat) (xs : List Int) (n : Int) (w : World) (hn : xs.length ≤ 1048576) (hA : Lies w A (intCells xs)) :
    Calls Try.prog 111 #[.slice A xs.length c, .int .i64 n] w fun r w' => r = .returned (.bool (inL xs n)) ∧ w = w' := by
  go_enter Try.func111, Try.ntmps111
  go_wp2
  go_loop [5] (fun i => ∃ k : Nat, k ≤ xs.length ∧ i = .int .i64 k ∧ ∀ j (hj : j < xs.length), j < k → xs[j] ≠ n) (fun i => xs.length - (intOf i).toNat)
  case atStart => exact ⟨0, Nat.zero_le _, rfl, fun j _ h => absurd h (Nat.not_lt_zero j)⟩
  case round =>
    obtain ⟨k, hk, rfl, hno⟩ := hrel
    have HNO := Lib.hid hno
    clear hno
    by_cases hlt : k < xs.length
    · obtain ⟨b, off, rfl, hlb, hck⟩ := hA.int k hlt
      obtain ⟨x, hx⟩ : ∃ x, x = xs[k] := ⟨_, rfl⟩
      have HX := Lib.hid hx
      rw [← hx] at hck
      have hlt' : (k : Int) < (xs.length : Int) := by omega
      by_cases h : x = n
      · have hq : (x == n) = true := by simpa using h
        have hin : inL xs n = true := by
          simp only [inL, decide_eq_true_eq]
          rw [← h, hx]
          exact List.getElem_mem hlt
        have HIN := Lib.hid hin
        clear hx h hin
        go_wp2_with fail
        go_ret
        exact ⟨by rw [HIN.out]; rfl, rfl⟩
      · have hq : (x == n) = false := by simpa using h
        have HH := Lib.hid h
        clear hx h
        go_wp2_with fail
        go_round
        case rel => exact ⟨k + 1, by omega, by go_num, fun j hj h => by
          rcases Nat.lt_succ_iff_lt_or_eq.1 h with h2 | h2
          · exact HNO.out j hj h2
          · subst h2; rw [← HX.out]; exact HH.out⟩
        case measure => simp [intOf]; omega
    · have hke : k = xs.length := by omega
      subst hke
      have hin : inL xs n = false := not_head fun j hj => HNO.out j hj hj
      have HIN := Lib.hid hin
      clear hin
      go_wp2_with fail
      go_ret
      exact ⟨by rw [HIN.out]; rfl, rfl⟩

def IdxPost (xs : List Int) (n : Int) (w : World) (r : Ending) (w' : World) : Prop := ∃ z : Int, r = .returned (.int .i64 z) ∧ decide (0 ≤ z) = inL xs n ∧ w = w'
set_option maxHeartbeats 1000000 in
theorem i_index (A : Option Addr) (c : Nat) (xs : List Int) (n : Int) (w : World) (hn : xs.length ≤ 1048576) (hA : Lies w A (intCells xs)) :
    Calls Try.prog 120 #[.slice A xs.length c, .int .i64 n] w (IdxPost xs n w) := by
  go_enter Try.func120, Try.ntmps120
  go_wp2
  go_loop [5, 8] (fun _ i => ∃ k : Nat, k ≤ xs.length ∧ i = .int .i64 k ∧ ∀ j (hj : j < xs.length), j < k → xs[j] ≠ n) (fun _ i => xs.length - (intOf i).toNat)
  case atStart => exact ⟨0, Nat.zero_le _, rfl, fun j _ h => absurd h (Nat.not_lt_zero j)⟩
  case round =>
    obtain ⟨k, hk, rfl, hno⟩ := hrel
    have HNO := Lib.hid hno
    clear hno
    by_cases hlt : k < xs.length
    · obtain ⟨b, off, rfl, hlb, hck⟩ := hA.int k hlt
      obtain ⟨x, hx⟩ : ∃ x, x = xs[k] := ⟨_, rfl⟩
      have HX := Lib.hid hx
      rw [← hx] at hck
      have hlt' : (k : Int) < (xs.length : Int) := by omega
      by_cases h : x = n
      · have hq : (n == x) = true := by simp [h]
        have hin : inL xs n = true := by
          simp only [inL, decide_eq_true_eq]
          rw [← h, hx]
          exact List.getElem_mem hlt
        have HIN := Lib.hid hin
        clear hx h hin
        go_wp2_with fail
        go_ret
        exact ⟨_, rfl, by rw [HIN.out]; simp, rfl⟩
      · have hq : (n == x) = false := by simp; exact fun e => h e.symm
        have HH := Lib.hid h
        clear hx h
        go_wp2_with fail
        go_round
        case rel => exact ⟨k + 1, by omega, by go_num, fun j hj h => by
          rcases Nat.lt_succ_iff_lt_or_eq.1 h with h2 | h2
          · exact HNO.out j hj h2
          · subst h2; rw [← HX.out]; exact HH.out⟩
        case measure => simp [intOf]; omega
    · have hke : k = xs.length := by omega
      subst hke
      have hin : inL xs n = false := not_head fun j hj => HNO.out j hj hj
      have HIN := Lib.hid hin
      clear hin
      go_wp2_with fail
      go_ret
      exact ⟨_, rfl, by rw [HIN.out]; simp, rfl⟩
theorem i_list (A : Option Addr) (c : Nat) (xs : List Int) (n : Int) (w : World) (hn : xs.length ≤ 1048576) (hA : Lies w A (intCells xs)) :
    Calls Try.prog 119 #[.slice A xs.length c, .int .i64 n] w fun r w' => r = .returned (.bool (inL xs n)) ∧ w = w' := by
  have hI := i_index A c xs n w hn hA
  obtain ⟨m, hm⟩ : ∃ m, m = xs.length := ⟨_, rfl⟩
  rw [← hm] at hI ⊢
  clear hn hm hA
  go_enter Try.func119, Try.ntmps119
  go_wp2_with (go_at_call 120; refine hI.mono ?_; rintro r w' ⟨z, rfl, hz, rfl⟩; refine Hid.out ?_)
  have HZ := Lib.hid hz
  clear hz
  refine Lib.hid ?_
  go_wp2_with fail
  go_ret
  exact ⟨by rw [← HZ.out]; rfl, rfl⟩

theorem seek_free {U : Us} {but : List Int} {f : Int} {k m : Nat} (h1 : useAt U (rowAt f k) = (0, 0)) (h2 : inL but (rowAt f k) = false) : seek U but f k (m + 1) = rowAt f k := by
  have h3 : rowAt f k ∉ but := by simpa [inL] using h2
  simp only [seek]
  rw [if_pos ⟨h1, h3⟩]
theorem seek_next {U : Us} {but : List Int} {f : Int} {k m : Nat} (h : useAt U (rowAt f k) ≠ (0, 0) ∨ inL but (rowAt f k) = true) : seek U but f k (m + 1) = seek U but f (k + 1) m := by
  simp only [seek]
  rw [if_neg]
  rintro ⟨h1, h2⟩
  rcases h with h | h
  · exact h h1
  · exact h2 (by simpa [inL] using h)

set_option maxRecDepth 100000 in
set_option maxHeartbeats 4000000 in
theorem spec_l5find (A B C : Option Addr) (c e d : Nat) (s : Sp) (f0 : Int) (but : List Int) (w : World) (hs : SpOk s) (hbn : but.length ≤ 1048576) (hA : SpAt w A B s) (hC : Lies w C (intCells but)) :
    Calls Try.prog 94 #[.agg #[.slice A s.refs.length c, .slice B s.last.length e], .int .i64 f0, .slice C but.length d] w fun r w' => r = .returned (.int .i64 (seek (usOf s) but (fromOf f0) 0 56)) ∧ Below w.heap.size w w' := by
  have b0 := B2.new w 25 (.slice A s.refs.length c) (.slice B s.last.length e)
  have hrow := fun w => s_row f0 w
  have hf := fromOf_in f0
  obtain ⟨hA1, _⟩ := hA
  have hlist := fun n W hW => s_list C d but n W hbn (hC.below (w' := W) hW)
  have hzi := fun k (hk : k < 64) x y hu => zero_iff hs hk (x := x) (y := y) hu
  have hat := fun k (hk : k < 64) => usOf_at hs.1 hs.2.1 k hk
  obtain ⟨h1, h2, _⟩ := hs
  obtain ⟨rs, hrs⟩ : ∃ rs, rs = s.refs := ⟨_, rfl⟩
  obtain ⟨U, hUU⟩ : ∃ U, U = usOf s := ⟨_, rfl⟩
  simp only [← hUU, ← hrs] at hzi hat
  rw [← hrs] at hA1
  have H1 : Hid (rs.length = 64) := Lib.hid (by rw [hrs]; exact h1)
  rw [h1, h2] at b0
  rw [h1, h2, ← hUU]
  have HZI := Lib.hid hzi
  have HAT := Lib.hid hat
  obtain ⟨mb, hmb⟩ : ∃ m, m = but.length := ⟨_, rfl⟩
  rw [← hmb] at hlist ⊢
  obtain ⟨f, hff⟩ : ∃ f, f = fromOf f0 := ⟨_, rfl⟩
  rw [← hff] at hf ⊢
  obtain ⟨hf1, hf2⟩ := hf
  obtain ⟨res, hres⟩ : ∃ r, r = seek U but f 0 56 := ⟨_, rfl⟩
  rw [← hres]
  have HRES := Lib.hid hres
  clear hzi hat hrs hUU h1 h2 hC hbn hmb hres
  by_cases h8 : 8 ≤ f0 ∧ f0 ≤ 63
  · rw [inB_yes h8] at hrow
    have hfe : f0 = f := by rw [hff]; simp [fromOf, h8]
    subst hfe
    clear h8 hff
    go_enter Try.func94, Try.ntmps94
    go_wp2_with (go_at_call 84; refine (hrow _).mono ?_; rintro r w' ⟨rfl, rfl⟩)
    go_loopw [8] (fun i wr => ∃ k : Nat, k ≤ 56 ∧ i = .int .i64 k ∧ res = seek U but f0 k (56 - k) ∧ Below w.heap.size w wr ∧ B2 wr w.heap.size 25 (.slice A 64 c) (.slice B 64 e)) (fun i _ => 56 - (intOf i).toNat)
    case atStart => exact ⟨0, by omega, rfl, HRES.out, bel_new (Below.refl _ _) _, b0⟩
    case round =>
      obtain ⟨k, hk, rfl, hsk, hB, hb⟩ := hrel
      have HSK := Lib.hid hsk
      clear hsk b0
      by_cases hlt : k < 56
      · have hrin := rowAt_in f0 k
        have hre : rowAt f0 k = 8 + (f0 - 8 + (k : Int)) % 56 := rfl
        obtain ⟨m, hm⟩ : ∃ m, 56 - k = m + 1 := ⟨56 - k - 1, by omega⟩
        obtain ⟨j, hj⟩ : ∃ j : Nat, rowAt f0 k = (j : Int) := ⟨(rowAt f0 k).toNat, by omega⟩
        have hj64 : j < 64 := by omega
        have hr : 8 + (f0 - 8 + (k : Int)) % 56 = (j : Int) := by rw [← hre, hj]
        obtain ⟨b1, o1, rfl, hl1, hc1⟩ := (hA1.below hB).int j (by have := H1.out; omega)
        obtain ⟨x, hx⟩ : ∃ x, x = rs[j]'(by have := H1.out; omega) := ⟨_, rfl⟩
        rw [← hx] at hc1
        obtain ⟨y, hu⟩ : ∃ y, U.getD j (0, 0) = (x, y) := ⟨_, by rw [HAT.out j hj64, List.getD_eq_getElem?_getD, List.getElem?_eq_getElem (by have := H1.out; omega : j < rs.length), hx]; rfl⟩
        have hz := HZI.out j hj64 x y hu
        have hus : useAt U (rowAt f0 k) = (x, y) := by rw [hj, useAt_nat]; exact hu
        have hwl := hb.lt
        obtain ⟨⟨x0, x1⟩, _, _⟩ := hb.cells
        have hlj := fun W hW => hlist (j : Int) W hW
        have hj0 : (j : Int) < 64 := by omega
        by_cases h0 : x = 0
        · have hq0 : (x == 0) = true := by simpa using h0
          by_cases hin : inL but (j : Int) = true
          · simp only [hin] at hlj
            have hnx : res = seek U but f0 (k + 1) (56 - (k + 1)) := by rw [HSK.out, hm, show 56 - (k + 1) = m by omega]; exact seek_next (.inr (by rw [hj]; exact hin))
            have HN := Lib.hid hnx
            clear hnx hin h0 hz hu hus hx hm hj hre hrin
            go_wp2_with (go_at_call 111; refine (hlj _ hB).mono ?_; rintro r w' ⟨rfl, rfl⟩)
            go_roundw
            case rel => exact ⟨k + 1, by omega, by go_num, HN.out, hB, hb⟩
            case measure => simp [intOf]; omega
          · have hin2 : inL but (j : Int) = false := by simpa using hin
            simp only [hin2] at hlj
            have hnx : res = (j : Int) := by rw [HSK.out, hm, seek_free (by rw [hus]; exact hz.1 h0) (by rw [hj]; exact hin2), hj]
            have HN := Lib.hid hnx
            clear hnx hin hin2 h0 hz hu hus hx hm hj hre hrin
            go_wp2_with (go_at_call 111; refine (hlj _ hB).mono ?_; rintro r w' ⟨rfl, rfl⟩)
            go_ret
            exact ⟨by rw [HN.out]; rfl, hB⟩
        · have hq0 : (x == 0) = false := by simpa using h0
          have hnx : res = seek U but f0 (k + 1) (56 - (k + 1)) := by rw [HSK.out, hm, show 56 - (k + 1) = m by omega]; exact seek_next (.inl (by rw [hus]; exact fun e => h0 (hz.2 e)))
          have HN := Lib.hid hnx
          clear hnx h0 hz hu hus hx hm hj hre hrin
          go_wp2_with fail
          go_roundw
          case rel => exact ⟨k + 1, by omega, by go_num, HN.out, hB, hb⟩
          case measure => simp [intOf]; omega
      · have hke : k = 56 := by omega
        subst hke
        have hnx : res = -1 := HSK.out
        have HN := Lib.hid hnx
        clear hnx
        go_wp2_with fail
        go_ret
        exact ⟨by rw [HN.out]; rfl, hB⟩
  · rw [inB_no h8] at hrow
    have hfe : f = 8 := by rw [hff]; simp only [fromOf]; rw [if_neg h8]
    subst hfe
    clear h8 hff
    go_enter Try.func94, Try.ntmps94
    go_wp2_with (go_at_call 84; refine (hrow _).mono ?_; rintro r w' ⟨rfl, rfl⟩)
    go_loopw [8] (fun i wr => ∃ k : Nat, k ≤ 56 ∧ i = .int .i64 k ∧ res = seek U but 8 k (56 - k) ∧ Below w.heap.size w wr ∧ B2 wr w.heap.size 25 (.slice A 64 c) (.slice B 64 e)) (fun i _ => 56 - (intOf i).toNat)
    case atStart => exact ⟨0, by omega, rfl, HRES.out, bel_new (Below.refl _ _) _, b0⟩
    case round =>
      obtain ⟨k, hk, rfl, hsk, hB, hb⟩ := hrel
      have HSK := Lib.hid hsk
      clear hsk b0
      by_cases hlt : k < 56
      · have hrin := rowAt_in 8 k
        have hre : rowAt 8 k = 8 + (8 - 8 + (k : Int)) % 56 := rfl
        obtain ⟨m, hm⟩ : ∃ m, 56 - k = m + 1 := ⟨56 - k - 1, by omega⟩
        obtain ⟨j, hj⟩ : ∃ j : Nat, rowAt 8 k = (j : Int) := ⟨(rowAt 8 k).toNat, by omega⟩
        have hj64 : j < 64 := by omega
        have hr : 8 + (k : Int) % 56 = (j : Int) := by rw [← hj, hre]; simp
        obtain ⟨b1, o1, rfl, hl1, hc1⟩ := (hA1.below hB).int j (by have := H1.out; omega)
        obtain ⟨x, hx⟩ : ∃ x, x = rs[j]'(by have := H1.out; omega) := ⟨_, rfl⟩
        rw [← hx] at hc1
        obtain ⟨y, hu⟩ : ∃ y, U.getD j (0, 0) = (x, y) := ⟨_, by rw [HAT.out j hj64, List.getD_eq_getElem?_getD, List.getElem?_eq_getElem (by have := H1.out; omega : j < rs.length), hx]; rfl⟩
        have hz := HZI.out j hj64 x y hu
        have hus : useAt U (rowAt 8 k) = (x, y) := by rw [hj, useAt_nat]; exact hu
        have hwl := hb.lt
        obtain ⟨⟨x0, x1⟩, _, _⟩ := hb.cells
        have hlj := fun W hW => hlist (j : Int) W hW
        have hj0 : (j : Int) < 64 := by omega
        by_cases h0 : x = 0
        · have hq0 : (x == 0) = true := by simpa using h0
          by_cases hin : inL but (j : Int) = true
          · simp only [hin] at hlj
            have hnx : res = seek U but 8 (k + 1) (56 - (k + 1)) := by rw [HSK.out, hm, show 56 - (k + 1) = m by omega]; exact seek_next (.inr (by rw [hj]; exact hin))
            have HN := Lib.hid hnx
            clear hnx hin h0 hz hu hus hx hm hj hre hrin
            go_wp2_with (go_at_call 111; refine (hlj _ hB).mono ?_; rintro r w' ⟨rfl, rfl⟩)
            go_roundw
            case rel => exact ⟨k + 1, by omega, by go_num, HN.out, hB, hb⟩
            case measure => simp [intOf]; omega
          · have hin2 : inL but (j : Int) = false := by simpa using hin
            simp only [hin2] at hlj
            have hnx : res = (j : Int) := by rw [HSK.out, hm, seek_free (by rw [hus]; exact hz.1 h0) (by rw [hj]; exact hin2), hj]
            have HN := Lib.hid hnx
            clear hnx hin hin2 h0 hz hu hus hx hm hj hre hrin
            go_wp2_with (go_at_call 111; refine (hlj _ hB).mono ?_; rintro r w' ⟨rfl, rfl⟩)
            go_ret
            exact ⟨by rw [HN.out]; rfl, hB⟩
        · have hq0 : (x == 0) = false := by simpa using h0
          have hnx : res = seek U but 8 (k + 1) (56 - (k + 1)) := by rw [HSK.out, hm, show 56 - (k + 1) = m by omega]; exact seek_next (.inl (by rw [hus]; exact fun e => h0 (hz.2 e)))
          have HN := Lib.hid hnx
          clear hnx h0 hz hu hus hx hm hj hre hrin
          go_wp2_with fail
          go_roundw
          case rel => exact ⟨k + 1, by omega, by go_num, HN.out, hB, hb⟩
          case measure => simp [intOf]; omega
      · have hke : k = 56 := by omega
        subst hke
        have hnx : res = -1 := HSK.out
        have HN := Lib.hid hnx
        clear hnx
        go_wp2_with fail
        go_ret
        exact ⟨by rw [HN.out]; rfl, hB⟩
end Go.Proofs.Ytmnamclndpfjnaa
