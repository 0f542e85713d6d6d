/-
  RaidRead, the program's, whole.
-/
import Derived.Test.YtndckncoipkhaaaRRi
namespace Go.Proofs.Ytndckncoipkhaaa
open Go.RowKit

set_option maxRecDepth 100000 in
set_option maxHeartbeats 4000000 in
theorem impl_rread (A : Option Addr) (cap : Nat) (ps : List RD) (a b c d e : Int) (w : World) (hn : ps.length ≤ 1048576) (hf : ∀ p ∈ ps, Bulk p.d) (hA : RAt w A ps) :
    Calls Try.prog 24 #[.agg #[.slice A ps.length cap], .agg #[.int .i64 a, .int .i64 b, .int .i64 c, .int .i64 d, .int .i64 e]] w (ReadPost (readR (dks ps) a b c d e) w) := by
  have bl : Below w.heap.size w ((w.alloc (.cells #[.slice A ps.length cap] 24)).alloc (.cells #[.int .i64 a, .int .i64 b, .int .i64 c, .int .i64 d, .int .i64 e] 43)) := bel_new (bel_new (Below.refl _ _) _) _
  have b0 := (B1.new w 24 (.slice A ps.length cap)).alloc (.cells #[.int .i64 a, .int .i64 b, .int .i64 c, .int .i64 d, .int .i64 e] 43)
  have hP0 := Cut.HP.new (w.alloc (.cells #[.slice A ps.length cap] 24)) a b c d e 43
  have hP : Hp5 (w.heap.size + 1) a b c d e ((w.alloc (.cells #[.slice A ps.length cap] 24)).alloc (.cells #[.int .i64 a, .int .i64 b, .int .i64 c, .int .i64 d, .int .i64 e] 43)) := by
    unfold Cut.HP at hP0
    rw [World.size_alloc] at hP0
    exact ⟨hP0.1, hP0.2.1, hP0.2.2.1, hP0.2.2.2.1, hP0.2.2.2.2.1, hP0.2.2.2.2.2.1, trivial⟩
  have hH := m_rok A cap ps _ hn hf (hA.below bl)
  have hO : ∀ W, Calls Try.prog 59 #[.agg #[.int .i64 a, .int .i64 b, .int .i64 c, .int .i64 d, .int .i64 e]] W fun r w' => r = .returned (.bool (Cut.isOk a b c d e)) ∧ Below W.heap.size W w' := fun W => (Cut.m_ok a b c d e W).mono fun r w' ⟨h1, h2⟩ => ⟨h1, by subst h2; first | exact bel_new (bel_new (Below.refl _ _) _) _ | exact bel_new (Below.refl _ _) _⟩
  have hM : ∀ W, Calls Try.prog 60 #[.agg #[.int .i64 a, .int .i64 b, .int .i64 c, .int .i64 d, .int .i64 e]] W fun r w' => r = .returned (.bool (Cut.isHole a b c d e)) ∧ Below W.heap.size W w' := fun W => (Cut.m_hole a b c d e W).mono fun r w' ⟨h1, h2⟩ => ⟨h1, by subst h2; exact bel_new (Below.refl _ _) _⟩
  clear hP0
  by_cases hok : RsOk (dks ps)
  · rw [okR_yes hok] at hH
    cases ho : Cut.isOk a b c d e
    · rw [readR_no (fun h => by rw [h.2.1] at ho; cases ho)]
      simp only [ho] at hO
      clear hok hf hA ho hM
      go_enter Try.func24, Try.ntmps24
      go_wp2_with (go_at_call 46; refine hH.mono ?_; rintro r w2 ⟨rfl, hb2⟩; refine Hid.out ?_)
      refine Lib.hid ?_
      obtain ⟨q0, q1, q2, q3, q4, _, _⟩ := hP.next hb2
      have BB := bel_then bl hb2
      clear hH hP b0 bl
      go_wp2_with (go_at_call 59; refine (hO _).mono ?_; rintro r w3 ⟨rfl, hb3⟩)
      go_ret2
      exact ⟨rfl, bel_then BB hb3⟩
    · cases hh : Cut.isHole a b c d e
      · have hg : PtrGo a b c d e := ⟨ho, hh⟩
        rw [readR_yes hok hg]
        simp only [ho] at hO
        simp only [hh] at hM
        obtain ⟨hb1, hb2⟩ := hg.bounds
        have h3 : ps.length = 3 := by have := hok.1; rwa [dks_len] at this
        have hS : ∀ W, Below w.heap.size w W → Calls Try.prog 61 #[.agg #[.slice A ps.length cap], .agg #[.int .i64 a, .int .i64 b, .int .i64 c, .int .i64 d, .int .i64 e]] W (ReadPost (Cut.firstFit ((dks ps).map fun x => zed x a) a b c d e 3) W) := fun W hW => by
          match ps, h3, hok, hf, hA with
          | [p0, p1, p2], _, hok, hf, hA => exact impl_read A cap p0 p1 p2 a b c d e W (fun p hp => hok.2 _ (List.mem_map.2 ⟨p, hp, rfl⟩)) (hA.below hW) hg
        obtain ⟨R, hR⟩ : ∃ R, R = Cut.firstFit ((dks ps).map fun x => zed x a) a b c d e 3 := ⟨_, rfl⟩
        simp only [← hR] at hS ⊢
        unfold ReadPost at hS
        clear hok hf hA ho hh hg hb1 hb2 h3 hR
        go_enter Try.func24, Try.ntmps24
        go_wp2_with (go_at_call 46; refine hH.mono ?_; rintro r w2 ⟨rfl, hb2⟩; refine Hid.out ?_)
        refine Lib.hid ?_
        have hP := hP.next hb2
        have b0 := b0.below hb2
        have BB := bel_then bl hb2
        obtain ⟨q0, q1, q2, q3, q4, _, _⟩ := id hP
        clear hH hb2 bl
        go_wp2_with (go_at_call 59; refine (hO _).mono ?_; rintro r w3 ⟨rfl, hb3⟩; refine Hid.out ?_)
        refine Lib.hid ?_
        have hP := hP.next hb3
        have b0 := b0.below hb3
        have BB := bel_then BB hb3
        clear q0 q1 q2 q3 q4 hb3 hO
        obtain ⟨q0, q1, q2, q3, q4, _, _⟩ := id hP
        go_wp2_with (go_at_call 60; refine (hM _).mono ?_; rintro r w4 ⟨rfl, hb4⟩; refine Hid.out ?_)
        refine Lib.hid ?_
        have hP := hP.next hb4
        have b0 := b0.below hb4
        have BB := bel_then BB hb4
        clear q0 q1 q2 q3 q4 hb4 hM
        obtain ⟨q0, q1, q2, q3, q4, _, _⟩ := id hP
        obtain ⟨x0, _⟩ := b0.cells
        go_wp2_with (go_at_call 61; refine (hS _ BB).mono ?_; rintro r w5 ⟨rfl, hb5⟩)
        go_ret2
        exact ⟨rfl, bel_then BB hb5⟩
      · rw [readR_no (fun h => by rw [h.2.2] at hh; cases hh)]
        simp only [ho] at hO
        simp only [hh] at hM
        clear hok hf hA ho hh
        go_enter Try.func24, Try.ntmps24
        go_wp2_with (go_at_call 46; refine hH.mono ?_; rintro r w2 ⟨rfl, hb2⟩; refine Hid.out ?_)
        refine Lib.hid ?_
        have hP := hP.next hb2
        have BB := bel_then bl hb2
        obtain ⟨q0, q1, q2, q3, q4, _, _⟩ := id hP
        clear hH b0 bl hb2
        go_wp2_with (go_at_call 59; refine (hO _).mono ?_; rintro r w3 ⟨rfl, hb3⟩; refine Hid.out ?_)
        refine Lib.hid ?_
        have hP := hP.next hb3
        have BB := bel_then BB hb3
        clear q0 q1 q2 q3 q4 hb3 hO
        obtain ⟨q0, q1, q2, q3, q4, _, _⟩ := id hP
        go_wp2_with (go_at_call 60; refine (hM _).mono ?_; rintro r w4 ⟨rfl, hb4⟩)
        go_ret2
        exact ⟨rfl, bel_then BB hb4⟩
  · rw [okR_no hok] at hH
    rw [readR_no (fun h => hok h.1)]
    clear hok hf hA hO hM
    go_enter Try.func24, Try.ntmps24
    go_wp2_with (go_at_call 46; refine hH.mono ?_; rintro r w2 ⟨rfl, hb2⟩)
    go_ret2
    exact ⟨rfl, bel_then bl hb2⟩
end Go.Proofs.Ytndckncoipkhaaa
