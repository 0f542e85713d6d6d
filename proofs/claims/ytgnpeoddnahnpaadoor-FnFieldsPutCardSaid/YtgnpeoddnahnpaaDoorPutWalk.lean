/-
  FnFieldsPut, its walk: records are read back.
-/
import Derived.Test.YtgnpeoddnahnpaaDoorGetWalk
namespace Go.Proofs.YtgnpeoddnahnpaaDoor
open Go.RowKit

set_option maxRecDepth 100000 in
set_option maxHeartbeats 1000000 in
theorem walk_fieldsput (A : Option Addr) (n cap : Nat) (w : World) (hn : n ≤ cap) (hA : BytesAt w A n) (hT : Tab w) (hE : Errs w) (hM : MaxL w) :
    Calls Tryd.prog 9 #[.slice A n cap] w fun e w' => e = .returned (.bool true) ∧ Below w.heap.size w w' := by
  by_cases h1 : (1048576 : Int) < (n : Int)
  · go_enter Tryd.func9, Tryd.ntmps9
    go_wp2
    go_ret
    exact ⟨rfl, Below.refl _ _⟩
  · have hD := draw_fields A n cap w hn hA
    go_enter Tryd.func9, Tryd.ntmps9
    go_wp2_with (go_at_call 26; refine hD.mono ?_; rintro e w1 ⟨ga, ca, ss, rfl, oa, la, sa, b1⟩; refine Hid.out ?_)
    refine Lib.hid ?_
    have aA := StrsAt.of_own oa rfl
    clear hD oa
    have eI := impl_fput (some ⟨ga, 0, none⟩) ca ss w1 (by omega) (fun s hs => by have := sa s hs; omega) aA (tab_at hT b1)
    go_wp2_with (go_at_call 16; refine eI.mono ?_; rintro e w2 ⟨rfl, b2⟩; refine Hid.out ?_)
    refine Lib.hid ?_
    have aA2 := aA.below b2
    have B2 : Below w.heap.size w w2 := b1.trans (b2.mono b1.size)
    clear eI aA
    have sI := spec_fput (some ⟨ga, 0, none⟩) ca ss w2 (by omega) (fun s hs => by have := sa s hs; omega) aA2
    go_wp2_with (go_at_call 14; refine sI.mono ?_; rintro e w3 ⟨rfl, b3⟩; refine Hid.out ?_)
    refine Lib.hid ?_
    have aA3 := aA2.below b3
    have B3 : Below w.heap.size w w3 := B2.trans (b3.mono B2.size)
    clear sI aA2
    by_cases hf : ss.length ≤ 60 ∧ (recL ss).length ≤ 2048
    · have hr : isRec (strOf (recL ss)).data.toList ss := ⟨hf.1, hf.2, strOf_toList _⟩
      have hG := (impl_fget (strOf (recL ss)) w3 (by rw [strOf_size]; omega) (tab_at hT B3) (hE.below B3) (hM.below B3)).mono fun e w' h => h.yes hr
      have hX := fun (W : World) (B : Option Addr) (c : Nat) (hb : Below w3.heap.size w3 W) (hB : StrsAt W B ss) => texts_any B (some ⟨ga, 0, none⟩) c ca ss ss W (by omega) (by omega) hB (aA3.below hb)
      simp only [decide_true] at hX
      rw [fput_yes hf.1 hf.2]
      have hz : ((strOf (recL ss)).size : Int) ≤ 2048 := by rw [strOf_size]; omega
      obtain ⟨t, ht⟩ : ∃ t, t = strOf (recL ss) := ⟨_, rfl⟩
      rw [← ht] at hG hz ⊢
      have hq : (t.toList == t.toList) = true := by simp
      have hq2 : (!t.toList == t.toList) = false := by simp
      clear hr hf ht hT hE hM sa
      go_wp2_with (go_at_call 19; refine hG.mono ?_; rintro e w4 ⟨g, c, rfl, o4, b4⟩; refine Hid.out ?_)
      refine Lib.hid ?_
      have hX4 := hX w4 (some ⟨g, 0, none⟩) c b4 (StrsAt.of_own o4 rfl)
      have B4 : Below w.heap.size w w4 := B3.trans (b4.mono B3.size)
      clear hG hX o4
      go_wp2_with (go_at_call 27; refine hX4.mono ?_; rintro e w5 ⟨rfl, q, rfl⟩)
      go_ret
      exact ⟨rfl, below_drewN B4 q⟩
    · have hp : fput ss = ([], false) := by unfold fput; rw [if_neg hf]
      rw [hp]
      have hq : ((strOf ([] : List UInt8)).toList == (strOf []).toList) = true := by simp
      have hq2 : (!(strOf ([] : List UInt8)).toList == (strOf []).toList) = false := by simp
      clear hf hp hT hE hM sa
      go_wp2_with fail
      go_ret
      exact ⟨rfl, B3⟩

end Go.Proofs.YtgnpeoddnahnpaaDoor
