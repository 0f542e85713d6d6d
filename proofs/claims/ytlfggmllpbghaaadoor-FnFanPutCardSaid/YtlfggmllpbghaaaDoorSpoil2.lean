/-
  l91Spoil draws some text, of a longer one too.
-/
import Derived.Test.YtlfggmllpbghaaaDoorSpoil
namespace Go.Proofs.YtlfggmllpbghaaaDoor
open Go.RowKit

set_option maxRecDepth 20000 in
set_option maxHeartbeats 2000000 in
theorem spoil_more (w0 w : World) (B : Nat) (A : Option Addr) (m cap p : Nat) (s : ByteArray) (h : IsRd w0 w B A m cap p) (hp : p ≤ 500000) (hs : s.size ≤ 300) :
    Calls Tryd.prog 50 #[.pointer (some ⟨B, 0, none⟩), .string s] w (SpoilPost w0 400) := by
  by_cases h0 : 0 < s.size
  · have hE := str_full h0
    have hE2 : s.toList.isEmpty = false := by simpa using hE
    have hP1 := pick_rd w0 w B A m cap p (s.size : Int) h (by omega) (by omega) (by omega)
    go_enter Tryd.func50, Tryd.ntmps50
    go_wp2_with (go_at_call 49; refine hP1.mono ?_; rintro e w1 ⟨x, x0, x1, rfl, r1, _⟩; refine Hid.out ?_)
    refine Lib.hid ?_
    have hP2 := pick_rd w0 w1 B A m cap (p + 1) 4 r1 (by omega) (by omega) (by omega)
    obtain ⟨k, rfl⟩ : ∃ k : Nat, x = (k : Int) := ⟨x.toNat, by omega⟩
    have hk : k < s.size := by omega
    have hw := IntWalk.i64_in ((k : Int) + 1) (by omega)
    have hA : (k : Int) ≤ (s.size : Int) := by omega
    have hB : (k : Int) + 1 ≤ (s.size : Int) := by omega
    have hC : ((k : Int) + 1).toNat = k + 1 := by omega
    have hD : 0 ≤ (k : Int) + 1 := by omega
    clear r1 h hP1
    go_wp2_with (go_at_call 49; refine hP2.mono ?_; rintro e w2 ⟨y, y0, y1, rfl, r2, _⟩; refine Hid.out ?_)
    refine Lib.hid ?_
    rcases (show y = 0 ∨ y = 1 ∨ y = 2 ∨ y = 3 by omega) with rfl | rfl | rfl | rfl
    · clear hP2
      go_wp2_with fail
      go_quiet (fail)
      clear hw
      go_wp2_with fail
      go_ret
      refine ⟨_, rfl, ?_, below_drewN r2.bel _⟩
      simp
      omega
    · clear hP2
      go_wp2_with fail
      go_ret
      refine ⟨_, rfl, ?_, r2.bel⟩
      simp
      omega
    · clear hP2
      have rD : IsRd w0 w2.drew B A m cap (p + 1 + 1) := ⟨r2.blk, r2.bts, r2.old, r2.bel.drew, r2.few⟩
      have hP3 := pick_rd w0 w2.drew B A m cap (p + 1 + 1) 256 rD (by omega) (by omega) (by omega)
      clear rD r2
      go_wp2_with fail
      go_region_with (go_at_call 49; refine hP3.mono ?_; rintro e w3 ⟨z, z0, z1, rfl, r3, _⟩; obtain ⟨c, rfl⟩ := byte_of z z0 z1; have hcb := u8_bd c; have hcw := IntWalk.u8_in (c.toNat : Int) (by omega); obtain ⟨t, ht, kc⟩ := spoil_one_any c)
      all_goals go_wp2_with fail
      all_goals go_ret
      all_goals refine ⟨_, rfl, ?_, r3.bel.alloc r3.bel.size _⟩
      all_goals simp
      all_goals omega
    · clear hP2
      have hP3 := fun (o : Obj) => pick_rd w0 (w2.alloc o) B A m cap (p + 1 + 1) 6 (r2.alloc o) (by omega) (by omega) (by omega)
      go_wp2_with (go_at_call 49; refine (hP3 _).mono ?_; rintro e w3 ⟨z, z0, z1, rfl, r3, g3⟩; refine Hid.out ?_)
      refine Lib.hid ?_
      have hne : some w2.heap.size ≠ some B := by
        intro e
        have := r2.lt
        cases e
        omega
      obtain ⟨j, rfl⟩ : ∃ j : Nat, z = (j : Int) := ⟨z.toNat, by omega⟩
      have hcell : ∃ c : ByteArray, c.size = 1 ∧ w3.cell? ⟨w2.heap.size, j, none⟩ = some (.string c) := by
        rw [World.cell?_of_block (w := w2.alloc (.cells #[.string ⟨#[48]⟩, .string ⟨#[58]⟩, .string ⟨#[46]⟩, .string ⟨#[45]⟩, .string ⟨#[59]⟩, .string ⟨#[32]⟩] 9)) (g3.block w2.heap.size (by simp) hne)]
        rcases (show j = 0 ∨ j = 1 ∨ j = 2 ∨ j = 3 ∨ j = 4 ∨ j = 5 by omega) with rfl | rfl | rfl | rfl | rfl | rfl
        · exact ⟨⟨#[48]⟩, rfl, by rw [World.cell?_alloc_mark]; rfl⟩
        · exact ⟨⟨#[58]⟩, rfl, by rw [World.cell?_alloc_mark]; rfl⟩
        · exact ⟨⟨#[46]⟩, rfl, by rw [World.cell?_alloc_mark]; rfl⟩
        · exact ⟨⟨#[45]⟩, rfl, by rw [World.cell?_alloc_mark]; rfl⟩
        · exact ⟨⟨#[59]⟩, rfl, by rw [World.cell?_alloc_mark]; rfl⟩
        · exact ⟨⟨#[32]⟩, rfl, by rw [World.cell?_alloc_mark]; rfl⟩
      obtain ⟨c, hc1, hc⟩ := hcell
      clear hP3 r2 g3 hne
      go_wp2_with fail
      go_ret
      refine ⟨_, rfl, ?_, r3.bel⟩
      simp
      omega
  · obtain ⟨hE, _⟩ := str_bare h0
    have hE2 : s.toList.isEmpty = true := by simpa using hE
    have hT := text_gr w0 w B A m cap p 4 h (by omega) (by omega)
    go_enter Tryd.func50, Tryd.ntmps50
    go_wp2_with (go_at_call 59; refine hT.mono ?_; rintro e w2 ⟨t, p', rfl, ht, hr2, _⟩)
    go_ret
    exact ⟨t, rfl, by omega, hr2.bel⟩

end Go.Proofs.YtlfggmllpbghaaaDoor
