/-
  FnPtrGet, its walk: just texts of pointers are read.
-/
import Derived.Test.YtlfggmllpbghaaaDoorPutBack
import Derived.Test.YtlfggmllpbghaaaDoorSpoil
namespace Go.Proofs.YtlfggmllpbghaaaDoor
open Go.RowKit

def DrawS (w : World) (r : Ending) (w' : World) : Prop := ∃ s : ByteArray, r = .returned (.string s) ∧ s.size ≤ 200 ∧ Below w.heap.size w w'

set_option maxRecDepth 100000 in
set_option maxHeartbeats 1000000 in
theorem draw_text24 (A : Option Addr) (n cap : Nat) (w : World) (hn : n ≤ cap) (hA : BytesAt w A n) :
    Calls Tryd.prog 24 #[.slice A n cap] w (DrawS w) := by
  have hO := open_rd A n cap w hn hA
  go_enter Tryd.func24, Tryd.ntmps24
  go_wp2_with (go_at_call 40; refine hO.mono ?_; rintro e w1 ⟨A1, m, c1, B, rfl, hr⟩; refine Hid.out ?_)
  refine Lib.hid ?_
  have hP := ptr_rd _ w1 B A1 m c1 0 hr (by omega)
  clear hO hr
  go_wp2_with (go_at_call 41; refine hP.mono ?_; rintro r w2 ⟨a, b, c, d, e, p', rfl, h2, hp'⟩; refine Hid.out ?_)
  refine Lib.hid ?_
  clear hP
  have hS := spec_put a b c d e w2
  have hsz : (strOf (putT a b c d e)).size ≤ 49 := by rw [strOf_size]; exact putT_short a b c d e
  obtain ⟨s, hs⟩ : ∃ s, s = strOf (putT a b c d e) := ⟨_, rfl⟩
  rw [← hs] at hS hsz
  clear hs
  go_wp2_with (go_at_call 22; refine hS.mono ?_; rintro r w3 ⟨rfl, b3⟩; refine Hid.out ?_)
  refine Lib.hid ?_
  have h3 := h2.below b3
  have hK := pick_rd _ w3 B A1 m c1 p' 3 h3 (by omega) (by omega) (by omega)
  clear h2 h3 b3 hS
  go_wp2_with (go_at_call 49; refine hK.mono ?_; rintro e w4 ⟨x, x0, x1, rfl, r4, _⟩; refine Hid.out ?_)
  refine Lib.hid ?_
  clear hK
  by_cases hx : x = 0
  · subst hx
    have hT := spoil_any _ w4 B A1 m c1 (p' + 1) s r4 (by omega) (by omega)
    go_wp2_with (go_at_call 50; refine hT.mono ?_; rintro e w5 ⟨t, rfl, ht, b5⟩)
    go_ret
    exact ⟨t, rfl, ht, b5⟩
  · have hx' : (x == 0) = false := by simpa using hx
    go_wp2_with fail
    go_ret
    exact ⟨s, rfl, by omega, r4.bel⟩

set_option maxRecDepth 100000 in
set_option maxHeartbeats 2000000 in
theorem walk_pget (A : Option Addr) (n cap : Nat) (w : World) (hn : n ≤ cap) (hA : BytesAt w A n) (hE : Env w) :
    Calls Tryd.prog 6 #[.slice A n cap] w fun e w' => e = .returned (.bool true) ∧ Below w.heap.size w w' := by
  by_cases h1 : (1048576 : Int) < (n : Int)
  · go_enter Tryd.func6, Tryd.ntmps6
    go_wp2
    go_ret
    exact ⟨rfl, Below.refl _ _⟩
  · have hD := draw_text24 A n cap w hn hA
    have hI := fun (a b c d e : Int) (W : World) (hb : Below w.heap.size w W) => impl_put a b c d e W (hE.1.at hb)
    have hG := fun (s : ByteArray) (hs : s.size ≤ 1048576) (W : World) (hb : Below w.heap.size w W) => impl_pget s W hs (hE.at hb)
    clear hE hA
    go_enter Tryd.func6, Tryd.ntmps6
    go_wp2_with (go_at_call 24; refine hD.mono ?_; rintro r w1 ⟨s, rfl, hs, b1⟩; refine Hid.out ?_)
    refine Lib.hid ?_
    clear hD
    have hG1 := hG s (by omega)
    have hS := fun W => spec_pget s W (by omega)
    have hpg := @put_get s
    obtain ⟨⟨⟨a, b, c, d, e⟩, o⟩, hq⟩ : ∃ q, q = ptrG s := ⟨_, rfl⟩
    rw [← hq] at hG1 hS hpg
    have hG2 : ∀ W, Below w.heap.size w W → Calls Tryd.prog 23 #[.string s] W fun e' w' => e' = .returned (.tuple #[.agg #[.int .i64 a, .int .i64 b, .int .i64 c, .int .i64 d, .int .i64 e], .bool o]) ∧ Below W.heap.size W w' := hG1
    have hS2 : ∀ W, Calls Tryd.prog 25 #[.string s] W fun e' w' => e' = .returned (.tuple #[.agg #[.int .i64 a, .int .i64 b, .int .i64 c, .int .i64 d, .int .i64 e], .bool o]) ∧ Below W.heap.size W w' := hS
    have hss := same_self a b c d e
    clear hG hG1 hS hq
    cases o with
    | false =>
      clear hI hpg
      go_wp2_with (first | (go_at_call 23; refine (hG2 _ b1).mono ?_; rintro r w2 ⟨rfl, b2⟩; have H2 := HP.new w2 a b c d e 24; have y2 := H2.2.2.2.2.2.2) | (go_at_call 25; refine (hS2 _).mono ?_; rintro r w3 ⟨rfl, b3⟩; have H3 := (H2.next b3).more (.cells #[.int .i64 a, .int .i64 b, .int .i64 c, .int .i64 d, .int .i64 e] 24); obtain ⟨y0, y1, y2, y3, y4, yl, yb⟩ := id H3))
      go_ret
      exact ⟨rfl, bel_then (bel_then b1 b2) yb⟩
    | true =>
      obtain ⟨hk, hput⟩ := hpg rfl
      have hP := hI a b c d e
      rw [hput] at hP
      have hO : ∀ W, Calls Tryd.prog 15 #[.agg #[.int .i64 a, .int .i64 b, .int .i64 c, .int .i64 d, .int .i64 e]] W fun r w' => r = .returned (.bool true) ∧ Below W.heap.size W w' := fun W => (impl_ok a b c d e W).mono fun r w' ⟨h1, h2⟩ => ⟨by rw [h1, hk], h2 ▸ bel_new (bel_new (bel_new (Below.refl _ _) _) _) _⟩
      clear hI hpg hput hk
      go_wp2_with (first | (go_at_call 23; refine (hG2 _ b1).mono ?_; rintro r w2 ⟨rfl, b2⟩; have H2 := HP.new w2 a b c d e 24; have y2 := H2.2.2.2.2.2.2) | (go_at_call 25; refine (hS2 _).mono ?_; rintro r w3 ⟨rfl, b3⟩; have H3 := (H2.next b3).more (.cells #[.int .i64 a, .int .i64 b, .int .i64 c, .int .i64 d, .int .i64 e] 24); obtain ⟨y0, y1, y2, y3, y4, yl, yb⟩ := id H3; have B3 := bel_then (bel_then b1 b2) yb) | (go_at_call 17; refine (hP _ B3).mono ?_; rintro r w4 ⟨rfl, b4⟩; have H4 := H3.next b4; obtain ⟨y0, y1, y2, y3, y4, yl, yb⟩ := id H4) | (go_at_call 15; refine (hO _).mono ?_; rintro r w5 ⟨rfl, b5⟩))
      go_ret
      exact ⟨rfl, bel_then (bel_then (bel_then b1 b2) yb) b5⟩

end Go.Proofs.YtlfggmllpbghaaaDoor
