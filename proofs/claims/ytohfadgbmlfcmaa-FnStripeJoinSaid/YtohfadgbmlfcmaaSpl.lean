/-
  l91Spoil draws some text, and reads on.
-/
import Derived.Test.YtohfadgbmlfcmaaBlk
import Derived.Test.YtohfadgbmlfcmaaMark
import Derived.BigQuiet
import Derived.BigRegion
import Derived.Deep.RegionWith
import Derived.RegionCalls
namespace Go.Proofs.Ytohfadgbmlfcmaa
open Go.RowKit

theorem str_full {r : ByteArray} (h : 0 < r.size) : (!r.toList.isEmpty) = true := by
  rw [ByteArray.toList_eq]
  have : r.data.toList ≠ [] := by
    intro e
    have h2 : r.data.toList.length = 0 := by rw [e]; rfl
    simp at h2
    have : r.size = 0 := by simp [ByteArray.size, h2]
    omega
  simpa using this
theorem str_bare {r : ByteArray} (h : ¬ 0 < r.size) : (!r.toList.isEmpty) = false ∧ r.data.toList = [] := by
  rw [ByteArray.toList_eq]
  have : r.data.toList = [] := List.eq_nil_of_length_eq_zero (by have e : r.data.toList.length = r.size := by simp
                                                                 omega)
  exact ⟨by rw [this]; rfl, this⟩


theorem spoil_one (w : World) (c : UInt8) : (convert 33 9 (.slice (some ⟨w.heap.size, 0, none⟩) 1 1)).run Try.prog (w.alloc (.cells #[.int .u8 (c.toNat : Int)] 5)) = .ok (.string (strOf [c])) (w.alloc (.cells #[.int .u8 (c.toNat : Int)] 5)) := by
  have hr := run_convert_bytes_arg (P := Try.prog) (w.alloc (.cells #[.int .u8 (c.toNat : Int)] 5)) 33 5 Try.underlying33 Try.underlying5 w.heap.size 0 1 1 [(c.toNat : Int)] rfl (fun i hi => by
    have : i = 0 := by omega
    subst this
    rw [World.cell?_alloc_mark]
    rfl) 9 Try.underlying9
  rw [hr]
  exact congrArg (fun x => Result.ok (Value.string x) _) (strOf_nums [c])

theorem spoil_one_any (c : UInt8) : ∃ t : ByteArray, t.size = 1 ∧ ∀ w : World, (convert 33 9 (.slice (some ⟨w.heap.size, 0, none⟩) 1 1)).run Try.prog (w.alloc (.cells #[.int .u8 (c.toNat : Int)] 5)) = .ok (.string t) (w.alloc (.cells #[.int .u8 (c.toNat : Int)] 5)) :=
  ⟨strOf [c], strOf_size _, fun w => spoil_one w c⟩

def SpoilPost (w0 w : World) (B : Nat) (A : Option Addr) (m cap p N : Nat) (e : Ending) (w' : World) : Prop := ∃ (t : ByteArray) (p' : Nat), e = .returned (.string t) ∧ t.size ≤ N ∧ IsRd w0 w' B A m cap p' ∧ p' ≤ p + 60 ∧ w.grownBy w' (some B)

theorem IsRd.drewN {w0 w : World} {B : Nat} {A : Option Addr} {m cap p : Nat} (h : IsRd w0 w B A m cap p) (q : Nat) : IsRd w0 (w.drewN q) B A m cap p := ⟨h.blk, h.bts, h.old, below_drewN h.bel q, h.few⟩
theorem grown_drewN {w0 w : World} {B : Nat} (h : w0.grownBy w (some B)) (q : Nat) : w0.grownBy (w.drewN q) (some B) := h.trans (below_grown (below_drewN (Below.refl _ _) q) _)
theorem grown_drew {w0 w : World} {B : Nat} (h : w0.grownBy w (some B)) : w0.grownBy w.drew (some B) := h.trans (below_grown (Below.refl _ _).drew _)

set_option maxRecDepth 20000 in
set_option maxHeartbeats 2000000 in
theorem spoil_gr (w0 w : World) (B : Nat) (A : Option Addr) (m cap p : Nat) (s : ByteArray) (h : IsRd w0 w B A m cap p) (hp : p ≤ 500000) (hs : s.size ≤ 300) :
    Calls Try.prog 38 #[.pointer (some ⟨B, 0, none⟩), .string s] w (SpoilPost w0 w B A m cap p 400) := by
  by_cases h0 : 0 < s.size
  · have hE := str_full h0
    have hE2 : s.toList.isEmpty = false := by simpa using hE
    have hP1 := pick_rd w0 w B A m cap p (s.size : Int) h (by omega) (by omega) (by omega)
    go_enter Try.func38, Try.ntmps38
    go_wp2_with (go_at_call 37; refine hP1.mono ?_; rintro e w1 ⟨x, x0, x1, rfl, r1, g1⟩; refine Hid.out ?_)
    refine Lib.hid ?_
    have hP2 := pick_rd w0 w1 B A m cap (p + 1) 4 r1 (by omega) (by omega) (by omega)
    obtain ⟨k, rfl⟩ : ∃ k : Nat, x = (k : Int) := ⟨x.toNat, by omega⟩
    have hk : k < s.size := by omega
    have hw := IntWalk.i64_in ((k : Int) + 1) (by omega)
    have hA : (k : Int) ≤ (s.size : Int) := by omega
    have hB : (k : Int) + 1 ≤ (s.size : Int) := by omega
    have hC : ((k : Int) + 1).toNat = k + 1 := by omega
    have hD : 0 ≤ (k : Int) + 1 := by omega
    clear r1 h hP1
    go_wp2_with (go_at_call 37; refine hP2.mono ?_; rintro e w2 ⟨y, y0, y1, rfl, r2, g2⟩; refine Hid.out ?_)
    refine Lib.hid ?_
    rcases (show y = 0 ∨ y = 1 ∨ y = 2 ∨ y = 3 by omega) with rfl | rfl | rfl | rfl
    · clear hP2
      go_wp2_with fail
      go_quiet (fail)
      clear hw
      go_wp2_with fail
      go_ret
      refine ⟨_, p + 1 + 1, rfl, ?_, r2.drewN _, by omega, grown_drewN (g1.trans g2) _⟩
      simp
      omega
    · clear hP2
      go_wp2_with fail
      go_ret
      refine ⟨_, p + 1 + 1, rfl, ?_, r2, by omega, g1.trans g2⟩
      simp
      omega
    · clear hP2
      have rD : IsRd w0 w2.drew B A m cap (p + 1 + 1) := ⟨r2.blk, r2.bts, r2.old, r2.bel.drew, r2.few⟩
      have hP3 := pick_rd w0 w2.drew B A m cap (p + 1 + 1) 256 rD (by omega) (by omega) (by omega)
      clear rD r2
      go_wp2_with fail
      go_region_with (go_at_call 37; refine hP3.mono ?_; rintro e w3 ⟨z, z0, z1, rfl, r3, g3⟩; obtain ⟨c, rfl⟩ := byte_of z z0 z1; have hcb := u8_bd c; have hcw := IntWalk.u8_in (c.toNat : Int) (by omega); obtain ⟨t, ht, kc⟩ := spoil_one_any c)
      all_goals go_wp2_with fail
      all_goals go_ret
      all_goals refine ⟨_, p + 1 + 1 + 1, rfl, ?_, r3.alloc _, by omega, ((grown_drew (g1.trans g2)).trans g3).trans (World.grownBy_alloc _ _ _)⟩
      all_goals simp
      all_goals omega
    · clear hP2
      have hP3 := fun (o : Obj) => pick_rd w0 (w2.alloc o) B A m cap (p + 1 + 1) 6 (r2.alloc o) (by omega) (by omega) (by omega)
      go_wp2_with (go_at_call 37; refine (hP3 _).mono ?_; rintro e w3 ⟨z, z0, z1, rfl, r3, g3⟩; refine Hid.out ?_)
      refine Lib.hid ?_
      have hne : some w2.heap.size ≠ some B := by
        intro e
        have := r2.lt
        cases e
        omega
      obtain ⟨j, rfl⟩ : ∃ j : Nat, z = (j : Int) := ⟨z.toNat, by omega⟩
      have hcell : ∃ c : ByteArray, c.size = 1 ∧ w3.cell? ⟨w2.heap.size, j, none⟩ = some (.string c) := by
        rw [World.cell?_of_block (w := w2.alloc (.cells #[.string ⟨#[48]⟩, .string ⟨#[58]⟩, .string ⟨#[46]⟩, .string ⟨#[45]⟩, .string ⟨#[59]⟩, .string ⟨#[32]⟩] 9)) (g3.block w2.heap.size (by simp) hne)]
        rcases (show j = 0 ∨ j = 1 ∨ j = 2 ∨ j = 3 ∨ j = 4 ∨ j = 5 by omega) with rfl | rfl | rfl | rfl | rfl | rfl
        · exact ⟨⟨#[48]⟩, rfl, by rw [World.cell?_alloc_mark]; rfl⟩
        · exact ⟨⟨#[58]⟩, rfl, by rw [World.cell?_alloc_mark]; rfl⟩
        · exact ⟨⟨#[46]⟩, rfl, by rw [World.cell?_alloc_mark]; rfl⟩
        · exact ⟨⟨#[45]⟩, rfl, by rw [World.cell?_alloc_mark]; rfl⟩
        · exact ⟨⟨#[59]⟩, rfl, by rw [World.cell?_alloc_mark]; rfl⟩
        · exact ⟨⟨#[32]⟩, rfl, by rw [World.cell?_alloc_mark]; rfl⟩
      obtain ⟨c, hc1, hc⟩ := hcell
      have G3 := Lib.hid g3
      clear hP3 r2 g3 hne
      go_wp2_with fail
      go_ret
      refine ⟨_, p + 1 + 1 + 1, rfl, ?_, r3, by omega, ((g1.trans g2).trans (World.grownBy_alloc _ _ _)).trans G3.out⟩
      simp
      omega
  · obtain ⟨hE, _⟩ := str_bare h0
    have hE2 : s.toList.isEmpty = true := by simpa using hE
    have hT := text_gr w0 w B A m cap p 4 h (by omega) (by omega)
    go_enter Try.func38, Try.ntmps38
    go_wp2_with (go_at_call 46; refine hT.mono ?_; rintro e w2 ⟨t, p', rfl, ht, hr2, hp2, g2⟩)
    go_ret
    exact ⟨t, p', rfl, by omega, hr2, by omega, g2⟩

end Go.Proofs.Ytohfadgbmlfcmaa
