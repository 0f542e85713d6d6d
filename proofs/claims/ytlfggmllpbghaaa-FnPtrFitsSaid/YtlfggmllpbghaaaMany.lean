/-
  l6Many: some text, not long; l91Block: some text, not long.
-/
import Derived.Test.YtlfggmllpbghaaaPtrDraw
namespace Go.Proofs.Ytlfggmllpbghaaa
open Go.RowKit

theorem half_odd (m q o : Nat) (h : m * (2 * q + 1) + o ≤ 1000) : (m + m) * q + (o + m) ≤ 1000 := by
  rw [Nat.mul_add, Nat.mul_one, ← Nat.mul_assoc, Nat.mul_two] at h
  omega
theorem half_even (m q o : Nat) (h : m * (2 * q) + o ≤ 1000) : (m + m) * q + o ≤ 1000 := by
  rw [← Nat.mul_assoc, Nat.mul_two] at h
  omega
theorem le_of_mul (m k o : Nat) (hk : 1 ≤ k) (h : m * k + o ≤ 1000) : m ≤ 1000 ∧ o ≤ 1000 := by
  have := Nat.le_mul_of_pos_right m hk
  omega

set_option maxHeartbeats 1000000 in
theorem many_any (l : List UInt8) (n : Nat) (w : World) (hn : l.length * n ≤ 1000) (hn2 : n ≤ 1000) :
    Calls Try.prog 35 #[.string (strOf l), .int .i64 n] w fun r w' => (∃ t : ByteArray, r = .returned (.string t) ∧ t.size ≤ 1000) ∧ w' = w := by
  go_enter Try.func35, Try.ntmps35
  go_wp2
  go_loop [0, 1, 5] (fun s i out => ∃ (l o : List UInt8) (k : Nat), s = .string (strOf l) ∧ i = .int .i64 k ∧ out = .string (strOf o) ∧ k ≤ 1000 ∧ l.length * k + o.length ≤ 1000) (fun _ i _ => (intOf i).toNat)
  case atStart => exact ⟨l, [], n, rfl, rfl, rfl, hn2, by simpa using hn⟩
  case round =>
    obtain ⟨l, o, k, rfl, rfl, rfl, hk, hb⟩ := hrel
    clear hn hn2
    by_cases h0 : k = 0
    · subst h0
      have hsz := strOf_size o
      go_wp2
      go_ret
      exact ⟨⟨strOf o, rfl, by rw [strOf_size]; omega⟩, rfl⟩
    · have hbd := le_of_mul _ _ _ (by omega) hb
      have a1 := add_strs Try.prog o l (by omega)
      have a2 := add_strs Try.prog l l (by omega)
      have hpos : (0 : Int) < (k : Int) := by omega
      obtain ⟨q, hq⟩ : ∃ q, q = k / 2 := ⟨_, rfl⟩
      have hdv : (k : Int) / 2 = (q : Int) := by omega
      have htd : ((k : Int).tdiv 2) = (q : Int) := by rw [Int.tdiv_eq_ediv_of_nonneg (by omega)]; exact hdv
      have hqw := IntWalk.i64_in (q : Int) (by omega)
      by_cases hm : k % 2 = 1
      · have htm : ((k : Int).tmod 2) = 1 := by rw [Int.tmod_eq_emod_of_nonneg (by omega)]; omega
        have hmd : ((k : Int) % 2) = 1 := by omega
        have hnx := half_odd l.length q o.length (by rw [show 2 * q + 1 = k by omega]; exact hb)
        have hlt : q < k := by omega
        have hqk : q ≤ 1000 := by omega
        have HQ := Lib.hid (show q ≤ 1000 ∧ q < k ∧ (l.length + l.length) * q + (o.length + l.length) ≤ 1000 from ⟨hqk, hlt, hnx⟩)
        clear hq hb hnx hm
        go_wp2
        all_goals
          go_round
          case rel => exact ⟨l ++ l, o ++ l, q, rfl, by go_num, rfl, HQ.out.1, by simpa using HQ.out.2.2⟩
          case measure => have := HQ.out.2.1; simp [intOf, *]
      · have htm : ((k : Int).tmod 2) = 0 := by rw [Int.tmod_eq_emod_of_nonneg (by omega)]; omega
        have hmd : ((k : Int) % 2) = 0 := by omega
        have hnx := half_even l.length q o.length (by rw [show 2 * q = k by omega]; exact hb)
        have hlt : q < k := by omega
        have hqk : q ≤ 1000 := by omega
        have HQ := Lib.hid (show q ≤ 1000 ∧ q < k ∧ (l.length + l.length) * q + o.length ≤ 1000 from ⟨hqk, hlt, hnx⟩)
        clear hq hb hnx hm
        go_wp2
        all_goals
          go_round
          case rel => exact ⟨l ++ l, o, q, rfl, by go_num, rfl, HQ.out.1, by simpa using HQ.out.2.2⟩
          case measure => have := HQ.out.2.1; simp [intOf, *]

def BlockPost (w0 w : World) (B : Nat) (A : Option Addr) (m cap p : Nat) (e : Ending) (w' : World) : Prop :=
  ∃ (s : ByteArray) (p' : Nat), e = .returned (.string s) ∧ s.size ≤ 1000 ∧ IsRd w0 w' B A m cap p' ∧ p' ≤ p + 60 ∧ w.grownBy w' (some B)

set_option maxHeartbeats 1000000 in
theorem block_gr (w0 w : World) (B : Nat) (A : Option Addr) (m cap p : Nat) (h : IsRd w0 w B A m cap p) (hp : p ≤ 400000) :
    Calls Try.prog 25 #[.pointer (some ⟨B, 0, none⟩)] w (BlockPost w0 w B A m cap p) := by
  have hK := pick_rd w0 w B A m cap p 30 h (by omega) (by omega) (by omega)
  have hM1 : ∀ w, Calls Try.prog 35 #[.string ⟨#[120]⟩, .int .i64 128] w fun r w' => (∃ t : ByteArray, r = .returned (.string t) ∧ t.size ≤ 1000) ∧ w' = w := fun w => many_any [120] 128 w (by decide) (by decide)
  have hM2 : ∀ w, Calls Try.prog 35 #[.string ⟨#[120]⟩, .int .i64 129] w fun r w' => (∃ t : ByteArray, r = .returned (.string t) ∧ t.size ≤ 1000) ∧ w' = w := fun w => many_any [120] 129 w (by decide) (by decide)
  go_enter Try.func25, Try.ntmps25
  go_wp2_with (go_at_call 24; refine hK.mono ?_; rintro e w1 ⟨x, x0, x1, rfl, h1, g1⟩; refine Hid.out ?_)
  refine Lib.hid ?_
  clear hK
  by_cases hx : x = 0
  · subst hx
    go_wp2_with fail
    go_ret
    exact ⟨⟨#[]⟩, _, rfl, by decide, h1, by omega, g1⟩
  have hx' : (x == 0) = false := by simpa using hx
  by_cases hy : x = 1
  · subst hy
    have hK := pick_rd w0 w1 B A m cap (p + 1) 2 h1 (by omega) (by omega) (by omega)
    go_wp2_with (go_at_call 24; refine hK.mono ?_; rintro e w2 ⟨y, y0, y1, rfl, h2, g2⟩; refine Hid.out ?_)
    refine Lib.hid ?_
    clear hK
    have g3 := g1.trans g2
    clear g1 g2 h1
    rcases (show y = 0 ∨ y = 1 by omega) with rfl | rfl
    · go_wp2_with (go_at_call 35; refine (hM1 _).mono ?_; rintro e w3 ⟨⟨t, rfl, ht⟩, rfl⟩)
      go_ret
      exact ⟨t, _, rfl, ht, h2, by omega, g3⟩
    · go_wp2_with (go_at_call 35; refine (hM2 _).mono ?_; rintro e w3 ⟨⟨t, rfl, ht⟩, rfl⟩)
      go_ret
      exact ⟨t, _, rfl, ht, h2, by omega, g3⟩
  have hy' : (x == 1) = false := by simpa using hy
  have hT := text_gr w0 w1 B A m cap (p + 1) 24 h1 (by omega) (by omega)
  clear hM1 hM2
  go_wp2_with (go_at_call 36; refine hT.mono ?_; rintro e w2 ⟨t, p', rfl, ht, h2, hp2, g2⟩; refine Hid.out ?_)
  refine Lib.hid ?_
  have g3 := g1.trans g2
  clear hT g1 g2 h1
  by_cases he : t.toList.isEmpty = true
  · have he2 : (t.toList == []) = true := by simpa using he
    have he3 : t.toList = [] := by simpa using he
    go_wp2_with fail
    go_ret
    exact ⟨⟨#[113]⟩, p', rfl, by decide, h2, by omega, g3⟩
  · have he2 : t.toList.isEmpty = false := by simpa using he
    have he3 : ¬ t.toList = [] := by simpa using he
    have he4 : (t.toList == []) = false := by simpa using he
    go_wp2_with fail
    go_ret
    exact ⟨t, p', rfl, by omega, h2, by omega, g3⟩

end Go.Proofs.Ytlfggmllpbghaaa
