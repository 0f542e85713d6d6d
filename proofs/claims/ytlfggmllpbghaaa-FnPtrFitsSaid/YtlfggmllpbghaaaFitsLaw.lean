/-
  FnPtrFits, its walk: a pointer that fits a text has its length and its sum, and fits no text with one byte changed.
-/
import Derived.Test.YtlfggmllpbghaaaDrawFits
import Derived.Test.YtlfggmllpbghaaaOfLaw
import Derived.Test.YtlfggmllpbghaaaFitsE
namespace Go.Proofs.Ytlfggmllpbghaaa
open Go.RowKit
set_option linter.unusedVariables false

theorem fits_parts {a b c d e : Int} {s : ByteArray} (h : fitsB a b c d e s = true) : c = (s.size : Int) ∧ d = sumT s.data.toList ∧ 1 ≤ s.size := by
  unfold fitsB at h
  rw [Bool.and_eq_true, Bool.and_eq_true, Bool.and_eq_true] at h
  obtain ⟨⟨⟨ho, hh⟩, hc⟩, hd⟩ := h
  have hc' := eq_of_beq hc
  have hd' := eq_of_beq hd
  have hh' : isHole a b c d e = false := by simpa using hh
  unfold isOk at ho
  rw [hh'] at ho
  have hi : inAll a b c d e := by simpa using ho
  obtain ⟨_, _, ⟨h1, h2⟩, _⟩ := hi
  exact ⟨hc', hd', by omega⟩
theorem fits_not {a b c d e : Int} {s : ByteArray} (h : fitsB a b c d e s = true) (l : List UInt8) (hl : sumT l ≠ sumT s.data.toList) : fitsB a b c d e (strOf l) = false := by
  have : (d == sumT (strOf l).data.toList) = false := by
    rw [strOf_toList, beq_eq_false_iff_ne, (fits_parts h).2.1]
    exact hl.symm
  unfold fitsB
  rw [this, Bool.and_false]
theorem BRow.drew {W : World} {g : Nat} {l : List UInt8} (h : BRow W g l) : BRow W.drew g l := ⟨h.lt, h.cell, h.free⟩

set_option maxRecDepth 100000 in
set_option maxHeartbeats 4000000 in
theorem walk_pfits (A : Option Addr) (n cap : Nat) (w : World) (hn : n ≤ cap) (hA : BytesAt w A n) :
    Calls Try.prog 4 #[.slice A n cap] w fun e w' => e = .returned (.bool true) ∧ Below w.heap.size w w' := by
  by_cases h1 : (1048576 : Int) < (n : Int)
  · go_enter Try.func4, Try.ntmps4
    go_wp2
    go_ret
    exact ⟨rfl, Below.refl _ _⟩
  · have hD := draw_fits A n cap w hn hA
    clear hA
    go_enter Try.func4, Try.ntmps4
    go_wp2_with (go_at_call 15; refine hD.mono ?_; rintro r w1 ⟨a, b, c, d, e, s, rfl, hs, b1⟩; refine Hid.out ?_)
    refine Lib.hid ?_
    clear hD
    have hF := fun W => impl_fits a b c d e s W (by unfold maxLen; omega)
    have hG := fun W => spec_fits a b c d e s W (by unfold maxLen; omega)
    have H0 := HP.new w1 a b c d e 26
    by_cases hf : fitsB a b c d e s = true
    · rw [hf] at hF hG
      obtain ⟨hc, hd, hp⟩ := fits_parts hf
      have kc := fun (w : World) => Lib.run_convert_string_bytes (P := Try.prog) w 9 22 5 s Try.underlying9 Try.underlying22 Try.underlying5
      obtain ⟨k, hk⟩ : ∃ k, k = n % s.size := ⟨_, rfl⟩
      have hks : k < s.size := by rw [hk]; exact Nat.mod_lt _ (by omega)
      have hkr : (n : Int) % (s.size : Int) = (k : Int) := by rw [hk]; rfl
      have hlen : s.data.toList.length = s.size := by simp
      obtain ⟨c0, hc0⟩ : ∃ c0 : UInt8, c0 = s.data.toList[k] := ⟨_, rfl⟩
      have hck : ∀ W, (Lib.bytesWorld W 5 s).cell? ⟨W.heap.size, k, none⟩ = some (.int .u8 (c0.toNat : Int)) := fun W => by rw [hc0]; exact (BRow.made W s).cell k (by omega)
      have hfk : ∀ W, (Lib.bytesWorld W 5 s).frozen? ⟨W.heap.size, k, none⟩ = false := fun W => (BRow.made W s).free k (by omega)
      obtain ⟨c1, c2⟩ := u8_bd c0
      obtain ⟨c', hc'⟩ := byte_of (((c0.toNat : Int) + 1) % 256) (by omega) (by omega)
      have t5 : IntKind.u8.wrap ((c0.toNat : Int) + 1) = (c'.toNat : Int) := by rw [IntKind.wrap_u8, hc']
      have hne : c' ≠ c0 := by
        intro e
        rw [e] at hc'
        omega
      have hz0 : (!decide (0 < s.size)) = false := by simp; omega
      have hz1 : ((s.size : Int) == 0) = false := beq_eq_false_iff_ne.2 (by omega)
      have hch := sum_changed s.data.toList k c' (by omega) (by rw [← hc0]; exact hne)
      have hN := fun W => impl_fits a b c d e (strOf (s.data.toList.set k c')) W (by rw [strOf_size, List.length_set]; unfold maxLen; omega)
      rw [fits_not hf _ hch] at hN
      have hS := fun W => impl_sum s W (by unfold maxLen; omega)
      obtain ⟨z, hz⟩ : ∃ z, z = sumT s.data.toList := ⟨_, rfl⟩
      rw [← hz] at hS hd
      have hx : (c == (s.size : Int)) = true := beq_iff_eq.2 hc
      have hxd : decide (c = (s.size : Int)) = true := decide_eq_true hc
      have hy : (d == z) = true := beq_iff_eq.2 hd
      have hyd : decide (d = z) = true := decide_eq_true hd
      have HLN := Lib.hid hlen
      have HKS := Lib.hid hks
      clear hk hc0 hc' hne hch hz hc hd hf hlen h1
      go_wp2_with (first
        | (go_at_call 13; refine (hF _).mono ?_; rintro r w2 ⟨rfl, b2⟩; have H2 := H0.next b2; obtain ⟨y0, y1, y2, y3, y4, yl, yb⟩ := id H2)
        | (go_at_call 16; refine (hG _).mono ?_; rintro r w3 ⟨rfl, b3⟩; have H3 := H2.next b3; obtain ⟨y0, y1, y2, y3, y4, yl, yb⟩ := id H3))
      have B1 := (BRow.made w3 s).set k (by have := HKS.out; have := HLN.out; omega) c'
      have H4 := H3.next ((Lib.bytesWorld_below w3 5 s).setCell (p := ⟨w3.heap.size, k, none⟩) (Nat.le_refl _) (.int .u8 (c'.toNat : Int)))
      obtain ⟨W, hW⟩ : ∃ W, W = (Lib.bytesWorld w3 5 s).setCell ⟨w3.heap.size, k, none⟩ (.int .u8 (c'.toNat : Int)) := ⟨_, rfl⟩
      rw [← hW] at B1 H4 ⊢
      have hcv := fun cp => B1.drew.conv cp
      rw [List.length_set, HLN.out] at hcv
      obtain ⟨l2, hl2⟩ : ∃ l2, l2 = strOf (s.data.toList.set k c') := ⟨_, rfl⟩
      rw [← hl2] at hcv hN
      have H5 := H4.drew
      obtain ⟨y0, y1, y2, y3, y4, yl, yb⟩ := id H4
      clear hW hl2 B1 kc hck hfk hkr t5 hF hG H0 H2 H3
      first
        | go_region_with (first
          | (go_at_call 17; refine (hS _).mono ?_; rintro r w4 ⟨rfl, rfl⟩)
          | (go_at_call 13; refine (hN _).mono ?_; rintro r w5 ⟨rfl, b5⟩; have H6 := H5.next b5; obtain ⟨y0, y1, y2, y3, y4, yl, yb⟩ := id H6))
        | fail "region"
      all_goals go_wp2_with fail
      all_goals go_ret
      all_goals exact ⟨rfl, bel_then b1 yb⟩
    · have hf' : fitsB a b c d e s = false := by simpa using hf
      rw [hf'] at hF hG
      clear hf hf' h1
      go_wp2_with (first
        | (go_at_call 13; refine (hF _).mono ?_; rintro r w2 ⟨rfl, b2⟩; have H2 := H0.next b2; obtain ⟨y0, y1, y2, y3, y4, yl, yb⟩ := id H2)
        | (go_at_call 16; refine (hG _).mono ?_; rintro r w3 ⟨rfl, b3⟩; have H3 := H2.next b3; obtain ⟨y0, y1, y2, y3, y4, yl, yb⟩ := id H3))
      go_ret
      exact ⟨rfl, bel_then b1 yb⟩

end Go.Proofs.Ytlfggmllpbghaaa
