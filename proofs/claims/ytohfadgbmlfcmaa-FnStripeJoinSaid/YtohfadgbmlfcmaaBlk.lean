/-
  l91Block draws a text: a block, or none.
-/
import Derived.Test.YtohfadgbmlfcmaaMany
namespace Go.Proofs.Ytohfadgbmlfcmaa
open Go.RowKit

def BlockPost (w0 w : World) (B : Nat) (A : Option Addr) (m cap p : Nat) (e : Ending) (w' : World) : Prop :=
  ∃ (s : ByteArray) (p' : Nat), e = .returned (.string s) ∧ s.size ≤ 1000 ∧ IsRd w0 w' B A m cap p' ∧ p' ≤ p + 60 ∧ w.grownBy w' (some B)

set_option maxHeartbeats 1000000 in
theorem block_gr (w0 w : World) (B : Nat) (A : Option Addr) (m cap p : Nat) (h : IsRd w0 w B A m cap p) (hp : p ≤ 400000) :
    Calls Try.prog 36 #[.pointer (some ⟨B, 0, none⟩)] w (BlockPost w0 w B A m cap p) := by
  have hK := pick_rd w0 w B A m cap p 30 h (by omega) (by omega) (by omega)
  have hM1 : ∀ w, Calls Try.prog 45 #[.string ⟨#[120]⟩, .int .i64 128] w fun r w' => (∃ t : ByteArray, r = .returned (.string t) ∧ t.size ≤ 1000) ∧ w' = w := fun w => many_any [120] 128 w (by decide) (by decide)
  have hM2 : ∀ w, Calls Try.prog 45 #[.string ⟨#[120]⟩, .int .i64 129] w fun r w' => (∃ t : ByteArray, r = .returned (.string t) ∧ t.size ≤ 1000) ∧ w' = w := fun w => many_any [120] 129 w (by decide) (by decide)
  go_enter Try.func36, Try.ntmps36
  go_wp2_with (go_at_call 37; refine hK.mono ?_; rintro e w1 ⟨x, x0, x1, rfl, h1, g1⟩; refine Hid.out ?_)
  refine Lib.hid ?_
  clear hK
  by_cases hx : x = 0
  · subst hx
    go_wp2_with fail
    go_ret
    exact ⟨⟨#[]⟩, _, rfl, by decide, h1, by omega, g1⟩
  have hx' : (x == 0) = false := by simpa using hx
  by_cases hy : x = 1
  · subst hy
    have hK := pick_rd w0 w1 B A m cap (p + 1) 2 h1 (by omega) (by omega) (by omega)
    go_wp2_with (go_at_call 37; refine hK.mono ?_; rintro e w2 ⟨y, y0, y1, rfl, h2, g2⟩; refine Hid.out ?_)
    refine Lib.hid ?_
    clear hK
    have g3 := g1.trans g2
    clear g1 g2 h1
    rcases (show y = 0 ∨ y = 1 by omega) with rfl | rfl
    · go_wp2_with (go_at_call 45; refine (hM1 _).mono ?_; rintro e w3 ⟨⟨t, rfl, ht⟩, rfl⟩)
      go_ret
      exact ⟨t, _, rfl, ht, h2, by omega, g3⟩
    · go_wp2_with (go_at_call 45; refine (hM2 _).mono ?_; rintro e w3 ⟨⟨t, rfl, ht⟩, rfl⟩)
      go_ret
      exact ⟨t, _, rfl, ht, h2, by omega, g3⟩
  have hy' : (x == 1) = false := by simpa using hy
  have hT := text_gr w0 w1 B A m cap (p + 1) 24 h1 (by omega) (by omega)
  clear hM1 hM2
  go_wp2_with (go_at_call 46; refine hT.mono ?_; rintro e w2 ⟨t, p', rfl, ht, h2, hp2, g2⟩; refine Hid.out ?_)
  refine Lib.hid ?_
  have g3 := g1.trans g2
  clear hT g1 g2 h1
  by_cases he : t.toList.isEmpty = true
  · have he2 : (t.toList == []) = true := by simpa using he
    have he3 : t.toList = [] := by simpa using he
    go_wp2_with fail
    go_ret
    exact ⟨⟨#[113]⟩, p', rfl, by decide, h2, by omega, g3⟩
  · have he2 : t.toList.isEmpty = false := by simpa using he
    have he3 : ¬ t.toList = [] := by simpa using he
    have he4 : (t.toList == []) = false := by simpa using he
    go_wp2_with fail
    go_ret
    exact ⟨t, p', rfl, by omega, h2, by omega, g3⟩

end Go.Proofs.Ytohfadgbmlfcmaa
