/-
  FnPtrApart, its walk: unlike pointers have unlike texts.
-/
import Derived.Test.YtlfggmllpbghaaaDoorDraw3
namespace Go.Proofs.YtlfggmllpbghaaaDoor
open Go.RowKit

set_option maxRecDepth 100000 in
set_option maxHeartbeats 2000000 in
theorem walk_papart (A : Option Addr) (n cap : Nat) (A2 : Option Addr) (n2 cap2 : Nat) (w : World) (hn : n ≤ cap) (hA : BytesAt w A n) (hn2 : n2 ≤ cap2) (hA2 : BytesAt w A2 n2) (hT : Tab w) :
    Calls Tryd.prog 9 #[.slice A n cap, .slice A2 n2 cap2] w fun e w' => e = .returned (.bool true) ∧ Below w.heap.size w w' := by
  by_cases h1 : (1048576 : Int) < (n : Int)
  · go_enter Tryd.func9, Tryd.ntmps9
    go_wp2
    go_ret
    exact ⟨rfl, Below.refl _ _⟩
  · by_cases h2 : (1048576 : Int) < (n2 : Int)
    · go_enter Tryd.func9, Tryd.ntmps9
      go_wp2
      go_ret
      exact ⟨rfl, Below.refl _ _⟩
    · have hD := draw_ptr21 A n cap w hn hA
      have hD2 := fun (w1 : World) (hb : Below w.heap.size w w1) => draw_ptr21 A2 n2 cap2 w1 hn2 (bytes_at_below hA2 hb)
      have hI := fun (a b c d e : Int) (W : World) (hb : Below w.heap.size w W) => impl_put a b c d e W (hT.at hb)
      clear hT hA hA2
      go_enter Tryd.func9, Tryd.ntmps9
      go_wp2_with (go_at_call 21; refine hD.mono ?_; rintro r w1 ⟨a, b, c, d, e, rfl, b1⟩; refine Hid.out ?_)
      refine Lib.hid ?_
      have hD3 := hD2 (w1.alloc (.cells #[.int .i64 a, .int .i64 b, .int .i64 c, .int .i64 d, .int .i64 e] 24)) (bel_new b1 _)
      clear hD hD2
      go_wp2_with (go_at_call 21; refine hD3.mono ?_; rintro r w2 ⟨a', b', c', d', e', rfl, b2⟩; refine Hid.out ?_)
      refine Lib.hid ?_
      have hBw2 : Below w.heap.size w (w2.alloc (.cells #[.int .i64 a', .int .i64 b', .int .i64 c', .int .i64 d', .int .i64 e'] 24)) := bel_new (bel_then (bel_new b1 _) b2) _
      have bA := ((Box.new w1 a b c d e).below b2).alloc (.cells #[.int .i64 a', .int .i64 b', .int .i64 c', .int .i64 d', .int .i64 e'] 24)
      have bB := Box.new w2 a' b' c' d' e'
      obtain ⟨⟨r0, r1, r2, r3, r4⟩, _⟩ := bA.cells
      obtain ⟨⟨s0, s1, s2, s3, s4⟩, _⟩ := bB.cells
      have hI1 := hI a b c d e _ hBw2
      have hI2 := hI a' b' c' d' e'
      have hS1 := fun W => spec_put a b c d e W
      have hS2 := fun W => spec_put a' b' c' d' e' W
      have hinj := @putT_inj a b c d e a' b' c' d' e'
      have hne := @putT_ne a b c d e
      have hno := @putT_no a b c d e
      obtain ⟨p, hp⟩ : ∃ p, p = putT a b c d e := ⟨_, rfl⟩
      obtain ⟨q, hq⟩ : ∃ q, q = putT a' b' c' d' e' := ⟨_, rfl⟩
      have hsm : same a b c d e a' b' c' d' e' = true → p = q := by
        intro h
        unfold same at h
        simp only [Bool.and_eq_true, beq_iff_eq] at h
        obtain ⟨⟨⟨⟨rfl, rfl⟩, rfl⟩, rfl⟩, rfl⟩ := h
        rw [hp, hq]
      rw [← hp] at hI1 hS1 hinj hne hno
      rw [← hq] at hI2 hS2 hinj
      clear hp hq hD3 hI b1 b2
      obtain ⟨x, hx⟩ : ∃ x, x = strOf p := ⟨_, rfl⟩
      obtain ⟨y, hy⟩ : ∃ y, y = strOf q := ⟨_, rfl⟩
      rw [← hx] at hI1 hS1
      rw [← hy] at hI2 hS2
      have hxx : (!x.toList == x.toList) = false := by simp
      have hyy : (!y.toList == y.toList) = false := by simp
      have hxx2 : (x.toList == x.toList) = true := by simp
      have hyy2 : (y.toList == y.toList) = true := by simp
      have hxl : x.toList = p := by rw [hx, ByteArray.toList_eq, strOf_toList]
      have hyl : y.toList = q := by rw [hy, ByteArray.toList_eq, strOf_toList]
      have HXL := Lib.hid hxl
      have HYL := Lib.hid hyl
      clear hx hy hxl hyl
      go_wp2_with (go_at_call 17; refine (hI1).mono ?_; rintro r w3 ⟨rfl, hb⟩; refine Hid.out ?_)
      refine Lib.hid ?_
      have bA := bA.below hb
      have bB := bB.below hb
      have hBw3 : Below w.heap.size w w3 := bel_then hBw2 hb
      obtain ⟨⟨r0, r1, r2, r3, r4⟩, _⟩ := bA.cells
      obtain ⟨⟨s0, s1, s2, s3, s4⟩, _⟩ := bB.cells
      clear hb
      have hI3 := hI2 w3 hBw3
      clear hI1 hI2
      go_wp2_with (go_at_call 17; refine (hI3).mono ?_; rintro r w4 ⟨rfl, hb⟩; refine Hid.out ?_)
      refine Lib.hid ?_
      have bA := bA.below hb
      have bB := bB.below hb
      have hBw4 : Below w.heap.size w w4 := bel_then hBw3 hb
      obtain ⟨⟨r0, r1, r2, r3, r4⟩, _⟩ := bA.cells
      obtain ⟨⟨s0, s1, s2, s3, s4⟩, _⟩ := bB.cells
      clear hb
      clear hI3
      by_cases hk : isOk a b c d e = true
      · have hz : x.toList.isEmpty = false := by
          rw [HXL.out]
          cases hpp : p with
          | nil => exact absurd hpp (hne hk)
          | cons u v => rfl
        go_wp2_with (go_at_call 22; refine (hS1 _).mono ?_; rintro r w5 ⟨rfl, hb⟩; refine Hid.out ?_)
        refine Lib.hid ?_
        have bA := bA.below hb
        have bB := bB.below hb
        have hBw5 : Below w.heap.size w w5 := bel_then hBw4 hb
        obtain ⟨⟨r0, r1, r2, r3, r4⟩, _⟩ := bA.cells
        obtain ⟨⟨s0, s1, s2, s3, s4⟩, _⟩ := bB.cells
        clear hb
        go_wp2_with (go_at_call 22; refine (hS2 _).mono ?_; rintro r w6 ⟨rfl, hb⟩; refine Hid.out ?_)
        refine Lib.hid ?_
        have bA := bA.below hb
        have bB := bB.below hb
        have hBw6 : Below w.heap.size w w6 := bel_then hBw5 hb
        obtain ⟨⟨r0, r1, r2, r3, r4⟩, _⟩ := bA.cells
        obtain ⟨⟨s0, s1, s2, s3, s4⟩, _⟩ := bB.cells
        clear hb
        by_cases hs : same a b c d e a' b' c' d' e' = true
        · have hxy : (x.toList == y.toList) = true := by rw [HXL.out, HYL.out, hsm hs]; simp
          unfold same at hs
          simp only [Bool.and_eq_true, beq_iff_eq] at hs
          obtain ⟨⟨⟨⟨rfl, rfl⟩, rfl⟩, rfl⟩, rfl⟩ := hs
          clear hinj hne hno hsm HXL HYL hS1 hS2 hk
          go_wp2_with fail
          all_goals go_ret
          all_goals exact ⟨rfl, hBw6⟩
        · have hxy : (x.toList == y.toList) = false := by
            rw [HXL.out, HYL.out]
            exact beq_eq_false_iff_ne.2 fun e => hs (hinj hk e)
          have hs' : ¬ (a = a' ∧ b = b' ∧ c = c' ∧ d = d' ∧ e = e') := fun ⟨h1, h2, h3, h4, h5⟩ => hs (by unfold same; simp [h1, h2, h3, h4, h5])
          have HS := Lib.hid hs'
          clear hinj hne hno hsm HXL HYL hS1 hS2 hk hs hs'
          go_wp2_with fail
          all_goals go_ret
          all_goals first
            | exact ⟨rfl, hBw6⟩
            | exact absurd ⟨by assumption, by assumption, by assumption, by assumption, by assumption⟩ HS.out
      · have hk' : isOk a b c d e = false := by simpa using hk
        have hz : x.toList.isEmpty = true := by rw [HXL.out, hno hk']; rfl
        clear hinj hne hno hsm HXL HYL hk hk'
        go_wp2_with (go_at_call 22; refine (hS1 _).mono ?_; rintro r w5 ⟨rfl, hb⟩; refine Hid.out ?_)
        refine Lib.hid ?_
        have bA := bA.below hb
        have bB := bB.below hb
        have hBw5 : Below w.heap.size w w5 := bel_then hBw4 hb
        obtain ⟨⟨r0, r1, r2, r3, r4⟩, _⟩ := bA.cells
        obtain ⟨⟨s0, s1, s2, s3, s4⟩, _⟩ := bB.cells
        clear hb
        go_wp2_with (go_at_call 22; refine (hS2 _).mono ?_; rintro r w6 ⟨rfl, hb⟩; refine Hid.out ?_)
        refine Lib.hid ?_
        have bA := bA.below hb
        have bB := bB.below hb
        have hBw6 : Below w.heap.size w w6 := bel_then hBw5 hb
        obtain ⟨⟨r0, r1, r2, r3, r4⟩, _⟩ := bA.cells
        obtain ⟨⟨s0, s1, s2, s3, s4⟩, _⟩ := bB.cells
        clear hb
        go_wp2_with (go_at_call 22; refine (hS1 _).mono ?_; rintro r w7 ⟨rfl, hb⟩; refine Hid.out ?_)
        refine Lib.hid ?_
        have bA := bA.below hb
        have bB := bB.below hb
        have hBw7 : Below w.heap.size w w7 := bel_then hBw6 hb
        obtain ⟨⟨r0, r1, r2, r3, r4⟩, _⟩ := bA.cells
        obtain ⟨⟨s0, s1, s2, s3, s4⟩, _⟩ := bB.cells
        clear hb
        go_wp2_with (go_at_call 22; refine (hS2 _).mono ?_; rintro r w8 ⟨rfl, hb⟩; refine Hid.out ?_)
        refine Lib.hid ?_
        have bA := bA.below hb
        have bB := bB.below hb
        have hBw8 : Below w.heap.size w w8 := bel_then hBw7 hb
        obtain ⟨⟨r0, r1, r2, r3, r4⟩, _⟩ := bA.cells
        obtain ⟨⟨s0, s1, s2, s3, s4⟩, _⟩ := bB.cells
        clear hb
        go_wp2_with fail
        go_ret
        exact ⟨rfl, hBw8⟩

end Go.Proofs.YtlfggmllpbghaaaDoor
