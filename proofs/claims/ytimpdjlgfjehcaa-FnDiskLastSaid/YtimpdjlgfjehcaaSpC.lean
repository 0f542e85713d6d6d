/-
  DiskFlush and DiskCrash, the model's.
-/
import Derived.Test.YtimpdjlgfjehcaaFlW
namespace Go.Proofs.Ytimpdjlgfjehcaa
open Go.RowKit

theorem DPost.mk {d : Dk} {w W : World} {A B : Option Addr} {c e : Nat} (h : DkOwn W w.heap.size (.agg #[.slice A d.cells.length c, .slice B d.waits.length e, .bool d.gone]) d) (hb : Below w.heap.size w W) :
    DPost d w (.returned (.agg #[.slice A d.cells.length c, .slice B d.waits.length e, .bool d.gone])) W := ⟨_, _, _, _, rfl, h, hb⟩
theorem crashD_yes {d : Dk} {mask tear : Int} (h : DkOk d) (h0 : 0 ≤ mask) : crashD d mask tear = ⟨st d.waits mask tear d.cells d.waits.length, [], d.gone⟩ := if_pos ⟨h, h0⟩
theorem crashD_no {d : Dk} {mask tear : Int} (h : ¬ (DkOk d ∧ 0 ≤ mask)) : crashD d mask tear = dk0 := if_neg h
theorem flushD_yes {d : Dk} (h : DkOk d) : flushD d = ⟨st d.waits 1152921504606846975 (-1) d.cells d.waits.length, [], d.gone⟩ := crashD_yes h (by decide)
theorem flushD_no {d : Dk} (h : ¬ DkOk d) : flushD d = dk0 := crashD_no (fun x => h x.1)

set_option maxRecDepth 100000 in
set_option maxHeartbeats 4000000 in
theorem spec_crash (A B : Option Addr) (c e : Nat) (d : Dk) (mask tear : Int) (w : World) (hd : Bulk d) (hA : DkAt w A B d) (h1 : mask ≤ 9223372036854775807) :
    Calls Try.prog 8 #[.agg #[.slice A d.cells.length c, .slice B d.waits.length e, .bool d.gone], .int .i64 mask, .int .i64 tear] w (DPost (crashD d mask tear) w) := by
  have K0 := TwoB.new w (.slice A d.cells.length c) (.slice B d.waits.length e) (.bool d.gone)
  have hle : w.heap.size ≤ w.heap.size + 1 := by omega
  by_cases hok : DkOk d
  · have hO := okPost_yes hok (spec_ok A B c e d _ hd (hA.below K0.one.2.2.2))
    by_cases h0 : 0 ≤ mask
    · have hC := fun W hW => spec_copy A B c e d W hd (hA.below (w' := W) hW)
      have hL := fun base A B c e W h2 h3 => l3crash base A B c e d mask tear W h2 h3 hok h0 h1
      have h0' : ¬ mask < 0 := by omega
      rw [crashD_yes hok h0]
      obtain ⟨D, hD⟩ : ∃ D : Dk, D = ⟨st d.waits mask tear d.cells d.waits.length, [], d.gone⟩ := ⟨_, rfl⟩
      rw [← hD] at hL ⊢
      clear hD hok hA hd h0 h1
      go_enter Try.func8, Try.ntmps8
      go_wp2_with (go_at_call 27; refine hO.mono ?_; rintro r w2 ⟨rfl, hb2⟩; refine Hid.out ?_)
      refine Lib.hid ?_
      have K2 := K0.next hb2
      obtain ⟨x0, x1, x2, y0, y1, y2, f0, f1, f2, _⟩ := id K2
      clear hO K0 hb2
      go_wp2_with (go_at_call 29; refine (hC _ K2.one.2.2.2).mono ?_; rintro r w3 ⟨A3, c3, B3, e3, rfl, o3, hb3⟩; refine Hid.out ?_)
      refine Lib.hid ?_
      have s2 := K2.2.2.2.2.2.2.2.2.2.2.1
      have L := hL w2.heap.size A3 B3 c3 e3 w3 hb3.size o3
      clear x0 x1 x2 y0 y1 y2 f0 f1 f2 hC hL o3
      go_wp2_with (go_at_call 28; refine L.mono ?_; rintro r w5 ⟨A5, c5, B5, e5, rfl, o5, hb5⟩; have K5 := K2.next (hb3.trans hb5); obtain ⟨x0, x1, x2, y0, y1, y2, f0, f1, f2, _⟩ := id K5)
      exact bodyPost_ret (v := .agg #[.slice A5 D.cells.length c5, .slice B5 D.waits.length e5, .bool D.gone]) (by simp [results, Try.f8, go_sem, y0, y1, y2]) rfl (DPost.mk ((o5.box (R := w.heap.size + 1) (by omega) _ _ _).base (by omega)) (bel_box K5.one.2.2.2 hle _ _ _))
    · have h0' : mask < 0 := by omega
      rw [crashD_no (fun x => h0 x.2)]
      clear hok hA hd h0
      go_enter Try.func8, Try.ntmps8
      go_wp2_with (go_at_call 27; refine hO.mono ?_; rintro r w2 ⟨rfl, hb2⟩; have K2 := K0.next hb2; obtain ⟨x0, x1, x2, y0, y1, y2, f0, f1, f2, _⟩ := id K2)
      exact bodyPost_ret (v := .agg #[.slice none 0 0, .slice none 0 0, .bool false]) (by simp [results, Try.f8, go_sem, y0, y1, y2]) rfl (DPost.mk (d := dk0) (dk0_own _ _) (bel_box K2.one.2.2.2 hle _ _ _))
  · have hO := okPost_no hok (spec_ok A B c e d _ hd (hA.below K0.one.2.2.2))
    rw [crashD_no (fun x => hok x.1)]
    clear hok hA hd
    go_enter Try.func8, Try.ntmps8
    go_wp2_with (go_at_call 27; refine hO.mono ?_; rintro r w2 ⟨rfl, hb2⟩; have K2 := K0.next hb2; obtain ⟨x0, x1, x2, y0, y1, y2, f0, f1, f2, _⟩ := id K2)
    exact bodyPost_ret (v := .agg #[.slice none 0 0, .slice none 0 0, .bool false]) (by simp [results, Try.f8, go_sem, y0, y1, y2]) rfl (DPost.mk (d := dk0) (dk0_own _ _) (bel_box K2.one.2.2.2 hle _ _ _))
end Go.Proofs.Ytimpdjlgfjehcaa
