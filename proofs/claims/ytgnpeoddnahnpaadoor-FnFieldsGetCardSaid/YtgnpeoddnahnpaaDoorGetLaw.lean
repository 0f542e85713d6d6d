/-
  FnFieldsGet, its walk: just texts of records are read.
-/
import Derived.Test.YtgnpeoddnahnpaaDoorPutWalk
namespace Go.Proofs.YtgnpeoddnahnpaaDoor
open Go.RowKit

theorem rec_small {l : List UInt8} {ss : List ByteArray} (h : isRec l ss) : ∀ x ∈ ss, x.size ≤ 2048 := by
  have h2 := h.2.1
  clear h
  induction ss with
  | nil => intro x hx; cases hx
  | cons s ss ih =>
    rw [recL_cons, List.length_append, encF_len] at h2
    intro x hx
    rcases List.mem_cons.1 hx with rfl | hx
    · omega
    · exact ih (by omega) x hx
theorem three_strs (t1 t2 t3 : ByteArray) (W : World) : StrsAt (W.alloc (.cells #[.string t1, .string t2, .string t3] 9)) (some ⟨W.heap.size, 0, none⟩) [t1, t2, t3] := by
  intro _
  refine ⟨W.heap.size, 0, rfl, by simp, fun j hj => ?_⟩
  rw [Nat.zero_add, World.cell?_alloc_mark]
  match j, hj with
  | 0, _ => rfl
  | 1, _ => rfl
  | 2, _ => rfl
theorem three_len (t1 t2 t3 : ByteArray) (h1 : t1.size ≤ 9) (h2 : t2.size ≤ 3) (h3 : t3.size ≤ 14) : (fput [t1, t2, t3]).1.length ≤ 100 := by
  have h : (recL [t1, t2, t3]).length ≤ 100 := by
    rw [recL_cons, recL_cons, recL_cons, recL_nil, List.length_append, List.length_append, List.length_append, encF_len, encF_len, encF_len]
    have := dec_len9 t1.size (by omega)
    have := dec_len9 t2.size (by omega)
    have := dec_len9 t3.size (by omega)
    simp
    omega
  unfold fput
  split
  · exact h
  · simp

set_option maxRecDepth 100000 in
set_option maxHeartbeats 1000000 in
theorem draw_fieldsget (A : Option Addr) (n cap : Nat) (w : World) (hn : n ≤ cap) (hA : BytesAt w A n) :
    Calls Tryd.prog 28 #[.slice A n cap] w (StrPost 200 w) := by
  have hO := open_rd A n cap w hn hA
  go_enter Tryd.func28, Tryd.ntmps28
  go_wp2_with (go_at_call 39; refine hO.mono ?_; rintro e w1 ⟨A1, m, c1, B, rfl, hr⟩; refine Hid.out ?_)
  refine Lib.hid ?_
  have hT := text_gr w w1 B A1 m c1 0 9 hr (by omega) (by omega)
  clear hr hO
  go_wp2_with (go_at_call 41; refine hT.mono ?_; rintro e w2 ⟨t1, p1, rfl, ht1, hr2, hp1, _⟩; refine Hid.out ?_)
  refine Lib.hid ?_
  have hT := text_gr w w2 B A1 m c1 p1 3 hr2 (by omega) (by omega)
  clear hr2
  go_wp2_with (go_at_call 41; refine hT.mono ?_; rintro e w3 ⟨t2, p2, rfl, ht2, hr3, hp2, _⟩; refine Hid.out ?_)
  refine Lib.hid ?_
  have hT := text_gr w w3 B A1 m c1 p2 14 hr3 (by omega) (by omega)
  clear hr3
  go_wp2_with (go_at_call 41; refine hT.mono ?_; rintro e w4 ⟨t3, p3, rfl, ht3, hr4, hp3, _⟩; refine Hid.out ?_)
  refine Lib.hid ?_
  have hF := spec_fput (some ⟨w4.heap.size, 0, none⟩) 3 [t1, t2, t3] (w4.alloc (.cells #[.string t1, .string t2, .string t3] 9)) (by simp) (by intro s hs; simp only [List.mem_cons, List.not_mem_nil, or_false] at hs; rcases hs with rfl | rfl | rfl <;> omega) (three_strs t1 t2 t3 w4)
  have hl := three_len t1 t2 t3 ht1 ht2 ht3
  obtain ⟨⟨r1, r2⟩, hr⟩ : ∃ r, r = fput [t1, t2, t3] := ⟨_, rfl⟩
  rw [← hr] at hF hl
  have hF1 : Calls Tryd.prog 14 #[.slice (some ⟨w4.heap.size, 0, none⟩) 3 3] (w4.alloc (.cells #[.string t1, .string t2, .string t3] 9)) fun e w' => e = .returned (.tuple #[.string (strOf r1), .bool r2]) ∧ Below (w4.alloc (.cells #[.string t1, .string t2, .string t3] 9)).heap.size (w4.alloc (.cells #[.string t1, .string t2, .string t3] 9)) w' := hF.mono fun e w' ⟨h1, h2⟩ => ⟨h1, h2⟩
  have hz : (strOf r1).size ≤ 100 := by rw [strOf_size]; exact hl
  obtain ⟨s, hs⟩ : ∃ s, s = strOf r1 := ⟨_, rfl⟩
  rw [← hs] at hF1 hz
  have hr5 := hr4.alloc (.cells #[.string t1, .string t2, .string t3] 9)
  clear hF hl hr hs hT hr4
  go_wp2_with (go_at_call 14; refine hF1.mono ?_; rintro e w5 ⟨rfl, hb5⟩; refine Hid.out ?_)
  refine Lib.hid ?_
  have hr6 := hr5.below hb5
  have hK := pick_rd w w5 B A1 m c1 p3 3 hr6 (by omega) (by omega) (by omega)
  clear hr5 hb5 hF1 hr6
  go_wp2_with (go_at_call 40; refine hK.mono ?_; rintro e w6 ⟨z, z0, z1, rfl, hr7, _⟩; refine Hid.out ?_)
  refine Lib.hid ?_
  clear hK
  by_cases hx : z = 0
  · subst hx
    have hS := spoil_any w w6 B A1 m c1 (p3 + 1) s hr7 (by omega) hz
    go_wp2_with (go_at_call 43; refine hS.mono ?_; rintro e w7 ⟨u, rfl, hu, hb7⟩)
    go_ret
    exact ⟨u, rfl, hu, hb7⟩
  · have hx' : (z == 0) = false := by simpa using hx
    go_wp2_with fail
    go_ret
    exact ⟨s, rfl, by omega, hr7.bel⟩

set_option maxRecDepth 100000 in
set_option maxHeartbeats 1000000 in
theorem walk_fieldsget (A : Option Addr) (n cap : Nat) (w : World) (hn : n ≤ cap) (hA : BytesAt w A n) (hT : Tab w) (hE : Errs w) (hM : MaxL w) :
    Calls Tryd.prog 10 #[.slice A n cap] w fun e w' => e = .returned (.bool true) ∧ Below w.heap.size w w' := by
  by_cases h1 : (1048576 : Int) < (n : Int)
  · go_enter Tryd.func10, Tryd.ntmps10
    go_wp2
    go_ret
    exact ⟨rfl, Below.refl _ _⟩
  · have hD := draw_fieldsget A n cap w hn hA
    go_enter Tryd.func10, Tryd.ntmps10
    go_wp2_with (go_at_call 28; refine hD.mono ?_; rintro e w1 ⟨s, rfl, hs, b1⟩; refine Hid.out ?_)
    refine Lib.hid ?_
    have hI0 := impl_fget s w1 (by omega) (tab_at hT b1) (hE.below b1) (hM.below b1)
    have hS0 := fun W => spec_fget s W (by omega)
    clear hD
    by_cases hx : ∃ ss, isRec s.data.toList ss
    · obtain ⟨ss, hr⟩ := hx
      have hI := hI0.mono fun e w' h => h.yes hr
      have hS := fun W => (hS0 W).mono fun e w' h => h.yes hr
      clear hI0 hS0
      go_wp2_with (go_at_call 19; refine hI.mono ?_; rintro e w2 ⟨g2, c2, rfl, o2, b2⟩; refine Hid.out ?_)
      refine Lib.hid ?_
      have B2 : Below w.heap.size w w2 := b1.trans (b2.mono b1.size)
      clear hI
      go_wp2_with (go_at_call 18; refine (hS _).mono ?_; rintro e w3 ⟨g3, c3, rfl, o3, b3⟩; refine Hid.out ?_)
      refine Lib.hid ?_
      have o2b := own_below9 o2 b3
      have B3 : Below w.heap.size w w3 := B2.trans (b3.mono B2.size)
      have h60 := hr.1
      have hX := texts_any (some ⟨g2, 0, none⟩) (some ⟨g3, 0, none⟩) c2 c3 ss ss w3 (by omega) (by omega) (StrsAt.of_own o2b rfl) (StrsAt.of_own o3 rfl)
      simp only [decide_true] at hX
      have hX1 : Calls Tryd.prog 27 #[.slice (some ⟨g2, 0, none⟩) ss.length c2, .slice (some ⟨g3, 0, none⟩) ss.length c3] w3 fun e w' => e = .returned (.bool true) ∧ Below w3.heap.size w3 w' := hX.mono fun e w' ⟨h1, q, h2⟩ => ⟨h1, by rw [h2]; exact below_drewN (Below.refl _ _) q⟩
      clear hS o2 o3 hX
      go_wp2_with (go_at_call 27; refine hX1.mono ?_; rintro e w4 ⟨rfl, b4⟩; refine Hid.out ?_)
      refine Lib.hid ?_
      have o2c := own_below9 o2b b4
      have B4 : Below w.heap.size w w4 := B3.trans (b4.mono B3.size)
      have hsz : ∀ x ∈ ss, x.size ≤ 2048 := fun x hx => rec_small hr x hx
      have hP := impl_fput (some ⟨g2, 0, none⟩) c2 ss w4 (by omega) (fun x hx => by have := hsz x hx; omega) (StrsAt.of_own o2c rfl) (tab_at hT B4)
      rw [fput_yes hr.1 hr.2.1, ← hr.2.2] at hP
      have hP1 : Calls Tryd.prog 16 #[.slice (some ⟨g2, 0, none⟩) ss.length c2] w4 fun e w' => e = .returned (.tuple #[.string s, .bool true]) ∧ Below w4.heap.size w4 w' := hP.mono fun e w' ⟨h1, h2⟩ => ⟨h1, h2⟩
      have hq : (s.toList == s.toList) = true := by simp
      clear hX1 o2b hP hsz hr hT hE hM
      go_wp2_with (go_at_call 16; refine hP1.mono ?_; rintro e w5 ⟨rfl, b5⟩)
      go_ret
      exact ⟨rfl, B4.trans (b5.mono B4.size)⟩
    · have hr : ∀ ss, ¬ isRec s.data.toList ss := fun ss h => hx ⟨ss, h⟩
      have hI := hI0.mono fun e w' h => h.no hr
      have hS := fun W => (hS0 W).mono fun e w' h => h.no hr
      have hX : ∀ (A B : Option Addr) (ca cb : Nat) (W : World), Calls Tryd.prog 27 #[.slice A 0 ca, .slice B 0 cb] W fun e w' => e = .returned (.bool true) ∧ ∃ q, w' = W.drewN q := fun A B ca cb W => (texts_any A B ca cb [] [] W (by simp) (by simp) (fun h => by simp at h) (fun h => by simp at h)).mono fun e w' ⟨h1, h2⟩ => ⟨by rw [h1]; rfl, h2⟩
      clear hI0 hS0 hT hE hM hr hx
      go_wp2_with (go_at_call 19; refine hI.mono ?_; rintro e w2 ⟨A2, c2, rfl, b2⟩; refine Hid.out ?_)
      refine Lib.hid ?_
      have B2 : Below w.heap.size w w2 := b1.trans (b2.mono b1.size)
      clear hI
      go_wp2_with (go_at_call 18; refine (hS _).mono ?_; rintro e w3 ⟨A3, c3, rfl, b3⟩; refine Hid.out ?_)
      refine Lib.hid ?_
      have B3 : Below w.heap.size w w3 := B2.trans (b3.mono B2.size)
      clear hS
      have hX3 := hX A2 A3 c2 c3 w3
      clear hX
      go_wp2_with (go_at_call 27; refine hX3.mono ?_; rintro e w4 ⟨rfl, q, hw4⟩; refine Hid.out ?_)
      refine Lib.hid ?_
      have B4 : Below w.heap.size w w4 := by rw [hw4]; exact below_drewN B3 q
      clear hw4
      go_wp2_with fail
      go_ret
      exact ⟨rfl, by first | exact B4 | exact below_drewN B3 q⟩

end Go.Proofs.YtgnpeoddnahnpaaDoor
