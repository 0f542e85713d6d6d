/-
  l6Many writes a text many times: some text that is not too long.
-/
import Derived.Test.YtgnpeoddnahnpaaDoorText2
namespace Go.Proofs.YtgnpeoddnahnpaaDoor
open Go.RowKit

theorem half_more (a o k : Nat) (h : o + a * k ≤ 3000) : o + (a + a) * (k / 2) ≤ 3000 ∧ (k % 2 = 1 → (o + a) + (a + a) * (k / 2) ≤ 3000) := by
  obtain ⟨q, hq⟩ : ∃ q, q = k / 2 := ⟨_, rfl⟩
  have hk : k = 2 * q + k % 2 := by omega
  have e1 : a * k = 2 * (a * q) + a * (k % 2) := by
    conv => lhs; rw [hk]
    rw [Nat.mul_add, Nat.mul_left_comm]
  have e2 : (a + a) * q = a * q + a * q := Nat.add_mul _ _ _
  rw [← hq, e2]
  refine ⟨by omega, fun h1 => ?_⟩
  rw [h1] at e1
  omega
theorem part_le (a o k : Nat) (h : o + a * k ≤ 3000) (hk : 0 < k) : a ≤ 3000 := by
  have : a ≤ a * k := Nat.le_mul_of_pos_right _ hk
  omega

set_option maxRecDepth 100000 in
set_option maxHeartbeats 1000000 in
theorem many_any (s : ByteArray) (n : Nat) (w : World) (hs : s.size * n ≤ 3000) (hn : n ≤ 3000) :
    Calls Tryd.prog 42 #[.string s, .int .i64 n] w fun e w' => ∃ t : ByteArray, e = .returned (.string t) ∧ t.size ≤ 3000 ∧ ∃ q, w' = w.drewN q := by
  · go_enter Tryd.func42, Tryd.ntmps42
    go_wp2
    go_loopg [0, 1, 5] n (fun g a b c wr => ∃ (x o : ByteArray) (k q : Nat), g = k ∧ a = .string x ∧ b = .int .i64 k ∧ c = .string o ∧ k ≤ 3000 ∧ o.size + x.size * k ≤ 3000 ∧ wr = w.drewN q)
    case atStart => exact ⟨s, ⟨#[]⟩, n, 0, rfl, rfl, rfl, rfl, hn, by show 0 + s.size * n ≤ 3000; omega, rfl⟩
    case round =>
      obtain ⟨x, o, k, q, hg, rfl, rfl, rfl, hk, hz, rfl⟩ := hrel
      have HG := Lib.hid hg
      clear hg
      have hos : o.size ≤ 3000 := by omega
      by_cases hk0 : 0 < k
      · have hk0' : (0 : Int) < (k : Int) := by omega
        have hx := part_le _ _ _ hz hk0
        obtain ⟨hm1, hm2⟩ := half_more _ _ _ hz
        clear hz
        obtain ⟨d, hd⟩ : ∃ d, d = k / 2 := ⟨_, rfl⟩
        have t1 : (k : Int).tdiv 2 = (d : Int) := by rw [hd, Int.tdiv_eq_ediv_of_nonneg (by omega)]; rfl
        have t2 : (k : Int) / 2 = (d : Int) := by rw [hd]; rfl
        have t3 := IntWalk.i64_in (d : Int) (by omega)
        have hdk : d < k := by omega
        rw [← hd] at hm1 hm2
        have HM1 := Lib.hid hm1
        have HM2 := Lib.hid hm2
        clear hm1 hm2
        have hd9 : d ≤ 3000 := by omega
        by_cases hr : k % 2 = 1
        · have hq1 : ((k : Int) % 2 == 1) = true := by simp; omega
          have HM := Lib.hid (HM2.out hr)
          clear hd hr
          go_wp2_with fail
          go_roundg d
          case measure => have := HG.out; omega
          case rel => exact ⟨x ++ x, o ++ x, d, q, rfl, rfl, rfl, rfl, hd9, by rw [ByteArray.size_append, ByteArray.size_append]; exact HM.out, rfl⟩
        · have hq1 : ((k : Int) % 2 == 1) = false := by simp; omega
          clear hd hr
          go_wp2_with fail
          go_roundg d
          case measure => have := HG.out; omega
          case rel => exact ⟨x ++ x, o, d, q, rfl, rfl, rfl, rfl, hd9, by rw [ByteArray.size_append]; exact HM1.out, rfl⟩
      · have hk0' : ¬ (0 : Int) < (k : Int) := by omega
        go_wp2_with fail
        go_ret
        exact ⟨o, rfl, hos, q, rfl⟩

end Go.Proofs.YtgnpeoddnahnpaaDoor
