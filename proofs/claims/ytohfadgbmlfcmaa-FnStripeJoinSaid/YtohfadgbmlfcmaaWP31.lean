/-
  FnStripeJoin's walk.
-/
import Derived.Test.YtohfadgbmlfcmaaDrJ
import Derived.Test.YtohfadgbmlfcmaaWJoin
namespace Go.Proofs.Ytohfadgbmlfcmaa
open Go.RowKit

/-- What a way that goes well tells. -/
theorem join_told {ss : List ByteArray} {size lost : Int} (h : (joinD ss size lost).2 = true) : ∃ (x0 x1 x2 : ByteArray) (n : Nat), ss = [x0, x1, x2] ∧ size = (n : Int) ∧ 1 ≤ n ∧ n ≤ 128 ∧ (joinD ss size lost).1.size = n ∧
    ((lost = -1 ∧ (joinD ss size lost).1 = x0 ++ x1) ∨ lost = 0 ∨ (lost = 1 ∧ ∃ l, (joinD ss size lost).1 = x0 ++ strOf l)) := by
  by_cases hc : ss.length = 3 ∧ (1 ≤ size ∧ size ≤ 128) ∧ (-1 ≤ lost ∧ lost ≤ 1)
  · obtain ⟨h3, ⟨h1, h2⟩, hl⟩ := hc
    match ss, h3 with
    | [x0, x1, x2], _ =>
      obtain ⟨n, rfl⟩ : ∃ n : Nat, size = (n : Int) := ⟨size.toNat, by omega⟩
      have hy := joinD_yes x0 x1 x2 n lost (by omega) (by omega) hl
      rw [hy] at h
      have hsz := joinL_size h
      refine ⟨x0, x1, x2, n, rfl, rfl, by omega, by omega, by rw [hy, strOf_size, hsz], ?_⟩
      rcases (show lost = -1 ∨ lost = 0 ∨ lost = 1 by omega) with rfl | rfl | rfl
      · refine .inl ⟨rfl, ?_⟩
        by_cases hf : x0.size = half n ∧ x1.size = n - half n
        · rw [way_a (by omega) (by omega) hf.1 hf.2]
        · rw [← hy, way_a_no (by omega) (by omega) hf] at h
          exact absurd h (by simp)
      · exact .inr (.inl rfl)
      · refine .inr (.inr ⟨rfl, ?_⟩)
        by_cases hf : x0.size = half n ∧ x2.size = half n
        · exact ⟨_, by rw [way_c (by omega) (by omega) hf.1 hf.2]⟩
        · rw [← hy, way_c_no (by omega) (by omega) hf] at h
          exact absurd h (by simp)
  · rw [joinD_no hc] at h
    exact absurd h (by simp)
theorem app_head (x y : ByteArray) : (x ++ y).extract 0 x.size = x := by
  apply bytes_inj
  rw [ext_head, ByteArray.data_append, Array.toList_append, List.take_left' (by rw [Array.length_toList]; rfl)]

set_option maxRecDepth 100000 in
set_option maxHeartbeats 8000000 in
theorem walk_sjoin (A : Option Addr) (n cap : Nat) (w : World) (hD : Calls Try.prog 22 #[.slice A n cap] w (DrawnJ w)) :
    Calls Try.prog 7 #[.slice A n cap] w fun r w' => r = .returned (.bool true) ∧ Below w.heap.size w w' := by
  by_cases hbig : 1048576 < n
  · have hbig2 : (1048576 : Int) < (n : Int) := by omega
    clear hD hbig
    go_enter Try.func7, Try.ntmps7
    go_wp2
    go_ret
    exact ⟨rfl, Below.refl _ _⟩
  have hbig2 : ¬ (1048576 : Int) < (n : Int) := by omega
  clear hbig
  go_enter Try.func7, Try.ntmps7
  go_wp2_with (go_at_call 22; refine hD.mono ?_; rintro r w1 ⟨A1, c1, ss, size, lost, rfl, L1, hsl, hsz, BB⟩; refine Hid.out ?_)
  refine Lib.hid ?_
  clear hD hbig2
  obtain ⟨t, ht⟩ : ∃ t, t = (joinD ss size lost).1 := ⟨_, rfl⟩
  obtain ⟨b, hb⟩ : ∃ t, t = (joinD ss size lost).2 := ⟨_, rfl⟩
  have hS : ∀ W, Lies W A1 (strCells ss) → Calls Try.prog 15 #[.slice A1 ss.length c1, .int .i64 size, .int .i64 lost] W (Told2 t b W) := fun W hW => (spec_join A1 c1 ss size lost W hsl hsz hW).mono fun r w' ⟨he, hb2⟩ => ⟨by rw [he, ht, hb], hb2⟩
  have hI : ∀ W, Lies W A1 (strCells ss) → Calls Try.prog 17 #[.slice A1 ss.length c1, .int .i64 size, .int .i64 lost] W (Told2 t b W) := fun W hW => (impl_join A1 c1 ss size lost W hsl hsz hW).mono fun r w' ⟨he, hb2⟩ => ⟨by rw [he, ht, hb], hb2⟩
  have hq : (t.toList == t.toList) = true := by simp
  have hT := fun h => join_told (ss := ss) (size := size) (lost := lost) h
  rw [← ht, ← hb] at hT
  have HT := Lib.hid hT
  have HSZ := Lib.hid hsz
  clear ht hb hT hsz hsl
  go_wp2_with (go_at_call 17; refine (hI _ L1).mono ?_; rintro r w2 ⟨rfl, b2⟩; refine Hid.out ?_)
  refine Lib.hid ?_
  have BB := bel_then BB b2
  have L1 := L1.below b2
  clear hI b2
  go_wp2_with (go_at_call 15; refine (hS _ L1).mono ?_; rintro r w3 ⟨rfl, b3⟩; refine Hid.out ?_)
  refine Lib.hid ?_
  have BB := bel_then BB b3
  have L1 := L1.below b3
  clear hS b3
  cases b with
  | false =>
    clear HT HSZ
    go_wp2_with fail
    go_ret
    exact ⟨rfl, BB⟩
  | true =>
    obtain ⟨x0, x1, x2, m, rfl, rfl, h1, h2, hts, hway⟩ := HT.out rfl
    obtain ⟨b, off, rfl, hT3⟩ := Three.of L1
    have hs := HSZ.out
    have s0 := hs x0 (by simp)
    have s1 := hs x1 (by simp)
    have hT3d : Three w3.drew b off x0 x1 x2 := hT3
    obtain ⟨_, k0, k1, k2⟩ := hT3
    unfold maxLen at s0 s1
    have hB1 : ((t.size : Int) == (m : Int)) = true := beq_iff_eq.2 (by omega)
    have hqx : (x0.toList == x0.toList) = true := by simp
    have HTS := Lib.hid hts
    clear HT HSZ hs L1 hts
    rcases hway with ⟨rfl, he⟩ | rfl | ⟨rfl, l, he⟩
    · have hle : x0.size + x1.size ≤ 9223372036854775807 := by
        have := HTS.out
        rw [he, app_len] at this
        omega
      have hadd := fun w => run_string_add_sum (P := Try.prog) w x0 x1 hle
      rw [← he] at hadd
      clear he hle h1 h2
      go_wp2_with fail
      go_quiet (fail)
      go_wp2_with fail
      go_ret
      exact ⟨rfl, below_drewN BB _⟩
    · clear h1 h2
      go_wp2_with fail
      go_quiet (fail)
      go_wp2_with fail
      go_ret
      exact ⟨rfl, below_drewN BB _⟩
    · have hle : (x0.size : Int) ≤ (t.size : Int) := by
        rw [he, app_len]
        omega
      have hle2 : x0.size ≤ t.size := by omega
      have hex : t.extract 0 x0.size = x0 := by rw [he, app_head]
      clear he h1 h2
      go_wp2_with fail
      go_quiet (fail)
      go_wp2_with fail
      go_ret
      exact ⟨rfl, below_drewN BB _⟩
end Go.Proofs.Ytohfadgbmlfcmaa
