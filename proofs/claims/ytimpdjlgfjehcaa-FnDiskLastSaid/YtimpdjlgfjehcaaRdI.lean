/-
  DiskRead, the program's.
-/
import Derived.Test.YtimpdjlgfjehcaaLtI
namespace Go.Proofs.Ytimpdjlgfjehcaa
open Go.RowKit

theorem impl_latestD (A B : Option Addr) (c e : Nat) (d : Dk) (n : Int) (w : World) (hA : DkAt w A B d) (h64 : d.cells.length = 64) (h120 : d.waits.length ≤ 120) (hn : 0 ≤ n ∧ n ≤ 63) :
    Calls Try.prog 37 #[.agg #[.slice A d.cells.length c, .slice B d.waits.length e, .bool d.gone], .int .i64 n] w (RdPost (latest d n) w) := by
  obtain ⟨cs, ws, g⟩ := d
  obtain ⟨k, rfl⟩ : ∃ k : Nat, n = (k : Int) := ⟨n.toNat, by omega⟩
  exact impl_latest A B c e cs ws g k w h64 h120 (by omega) hA

set_option maxRecDepth 100000 in
set_option maxHeartbeats 2000000 in
theorem impl_read (A B : Option Addr) (c e : Nat) (d : Dk) (n : Int) (w : World) (hd : Bulk d) (hA : DkAt w A B d) :
    Calls Try.prog 18 #[.agg #[.slice A d.cells.length c, .slice B d.waits.length e, .bool d.gone], .int .i64 n] w (readPost d n w) := by
  have B0 := bel_new (Below.refl w.heap.size w) (.cells #[.slice A d.cells.length c, .slice B d.waits.length e, .bool d.gone] 26)
  have hO := impl_ok A B c e d _ hd (hA.below B0)
  have hC := fun w => i_cell n w
  have b0 := Bx.new w 26 (.slice A d.cells.length c) (.slice B d.waits.length e) (.bool d.gone)
  by_cases hok : DkOk d
  · have hO2 := hO.mono (fun r w' (h : OkPost d _ r w') => (show r = .returned (.bool true) ∧ Below _ _ w' from by rw [← (okD_iff d).2 hok]; exact h))
    clear hO
    by_cases hg : d.gone = false
    · have b0' := b0
      rw [hg] at hO2 b0'
      by_cases hn : 0 ≤ n ∧ n ≤ 63
      · rw [cellB_yes hn] at hC
        have hL := fun W hW => impl_latestD A B c e d n W (hA.below (w' := W) hW) hok.1 hok.2.1 hn
        rw [hg] at hL
        have HY : ∀ W, Below w.heap.size w W → readPost d n w (.returned (.tuple #[.string (latest d n), .bool true])) W := fun W hW => readPost.yes hok hg hn hW
        rw [hg]
        obtain ⟨s, hs⟩ : ∃ s, s = latest d n := ⟨_, rfl⟩
        rw [← hs] at hL HY
        clear hs hok hn hA hg b0
        go_enter Try.func18, Try.ntmps18
        go_wp2_with (first
          | (go_at_call 24; refine hO2.mono ?_; rintro r w2 ⟨rfl, hb2⟩; obtain ⟨⟨x0, x1, x2⟩, _⟩ := (b0'.below hb2).cells; have B2 := bel_then (bel_new (Below.refl w.heap.size w) _) hb2)
          | (go_at_call 36; refine (hC _).mono ?_; rintro r w' ⟨rfl, rfl⟩)
          | (go_at_call 37; refine (hL _ B2).mono ?_; rintro r w3 ⟨rfl, hb3⟩))
        go_ret2
        exact HY _ (bel_then B2 hb3)
      · rw [cellB_no hn] at hC
        have HN : ∀ W, Below w.heap.size w W → readPost d n w (.returned (.tuple #[.string ⟨#[]⟩, .bool false])) W := fun W hW => readPost.no (fun h => hn h.2.2) hW
        rw [hg]
        clear hok hn hA hg b0
        go_enter Try.func18, Try.ntmps18
        go_wp2_with (first
          | (go_at_call 24; refine hO2.mono ?_; rintro r w2 ⟨rfl, hb2⟩; obtain ⟨⟨x0, x1, x2⟩, _⟩ := (b0'.below hb2).cells; have B2 := bel_then (bel_new (Below.refl w.heap.size w) _) hb2)
          | (go_at_call 36; refine (hC _).mono ?_; rintro r w' ⟨rfl, rfl⟩))
        go_ret2
        exact HN _ B2
    · have HN : ∀ W, Below w.heap.size w W → readPost d n w (.returned (.tuple #[.string ⟨#[]⟩, .bool false])) W := fun W hW => readPost.no (fun h => hg h.2.1) hW
      have hg' : d.gone = true := by simpa using hg
      rw [hg'] at hO2 b0 ⊢
      clear hok hA hg hg' hC
      go_enter Try.func18, Try.ntmps18
      go_wp2_with (go_at_call 24; refine hO2.mono ?_; rintro r w2 ⟨rfl, hb2⟩; obtain ⟨⟨x0, x1, x2⟩, _⟩ := (b0.below hb2).cells; have B2 := bel_then (bel_new (Below.refl w.heap.size w) _) hb2)
      go_ret2
      exact HN _ B2
  · have hO2 := hO.mono (fun r w' (h : OkPost d _ r w') => (show r = .returned (.bool false) ∧ Below _ _ w' from by rw [← okD_no hok]; exact h))
    have HN : ∀ W, Below w.heap.size w W → readPost d n w (.returned (.tuple #[.string ⟨#[]⟩, .bool false])) W := fun W hW => readPost.no (fun h => hok h.1) hW
    clear hO hok hA hC b0
    go_enter Try.func18, Try.ntmps18
    go_wp2_with (go_at_call 24; refine hO2.mono ?_; rintro r w2 ⟨rfl, hb2⟩; have B2 := bel_then (bel_new (Below.refl w.heap.size w) _) hb2)
    go_ret2
    exact HN _ B2
end Go.Proofs.Ytimpdjlgfjehcaa
