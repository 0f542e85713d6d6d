/-
  FnRunsOpen, its walk: what opens is what packing gives.
-/
import Derived.Test.YtgnpeoddnahnpaaSpoil
import Derived.Test.YtgnpeoddnahnpaaPackLaw
namespace Go.Proofs.Ytgnpeoddnahnpaa
open Go.RowKit

theorem piece_long (c : UInt8) (n : Nat) (h9 : n ≤ 9) : n ≤ 3 * (piece c n).length := by
  unfold piece
  split
  · simp; omega
  · simp; omega
theorem pack_long (l : List UInt8) : l.length ≤ 3 * (pack l).length := by
  induction hn : l.length using Nat.strongRecOn generalizing l with
  | _ n ih =>
    cases l with
    | nil => simp at hn; omega
    | cons c l =>
      have hb := rl_bd (c :: l) (by simp)
      have hp := piece_long c (rl (c :: l)) hb.2.1
      have hd : ((c :: l).drop (rl (c :: l))).length = (c :: l).length - rl (c :: l) := List.length_drop
      have h := ih _ (by rw [hd]; omega) ((c :: l).drop (rl (c :: l))) rfl
      rw [pack_run, List.length_append]
      omega
theorem openA_true {l x : List UInt8} (h : openA l = (x, true)) : pack x = l := by
  unfold openA at h
  split at h
  · simp at h
  · split at h
    · rename_i t ht hp
      simp only [Prod.mk.injEq] at h
      rw [← h.1]
      exact hp
    · simp at h

theorem IsRd.below {w0 w w' : World} {B : Nat} {A : Option Addr} {m cap p : Nat} (h : IsRd w0 w B A m cap p) (hb : Below w.heap.size w w') : IsRd w0 w' B A m cap p :=
  ⟨(hb.block B h.lt).trans h.blk, h.bts, h.old, h.bel.trans (hb.mono h.bel.size), h.few⟩

theorem pack_some (s : ByteArray) (hs : s.size ≤ 24) : ∃ t : ByteArray, t.size ≤ 72 ∧
    (∀ w, Calls Try.prog 11 #[.string s] w fun e w' => e = .returned (.string t) ∧ Below w.heap.size w w') := by
  obtain ⟨t, ht, h, _⟩ := packs s (by omega)
  exact ⟨t, by omega, h⟩

set_option maxHeartbeats 1000000 in
theorem draw_open (A : Option Addr) (n cap : Nat) (w : World) (hn : n ≤ cap) (hA : BytesAt w A n) :
    Calls Try.prog 17 #[.slice A n cap] w (PackPost 200 w) := by
  have hO := open_rd A n cap w hn hA
  go_enter Try.func17, Try.ntmps17
  go_wp2_with (go_at_call 21; refine hO.mono ?_; rintro e w1 ⟨A1, m, c1, B, rfl, hr⟩; refine Hid.out ?_)
  refine Lib.hid ?_
  have hT := text_any w w1 B A1 m c1 0 24 hr (by omega) (by omega)
  clear hr hO
  go_wp2_with (go_at_call 22; refine hT.mono ?_; rintro e w2 ⟨s, p', rfl, hs, hr2, hp2⟩; refine Hid.out ?_)
  refine Lib.hid ?_
  obtain ⟨t, ht, hP⟩ := pack_some s hs
  clear hT
  go_wp2_with (go_at_call 11; refine (hP _).mono ?_; rintro e w3 ⟨rfl, hb3⟩; refine Hid.out ?_)
  refine Lib.hid ?_
  have hr3 := hr2.below hb3
  have hK := pick_rd w w3 B A1 m c1 p' 3 hr3 (by omega) (by omega) (by omega)
  clear hr2 hb3 hP hr3
  go_wp2_with (go_at_call 23; refine hK.mono ?_; rintro e w4 ⟨x, x0, x1, rfl, hr4, _⟩; refine Hid.out ?_)
  refine Lib.hid ?_
  clear hK
  by_cases hx : x = 0
  · subst hx
    have hS := spoil_any w w4 B A1 m c1 (p' + 1) t hr4 (by omega) (by omega)
    go_wp2_with (go_at_call 24; refine hS.mono ?_; rintro e w5 ⟨u, rfl, hu, hb5⟩)
    go_ret
    exact ⟨u, rfl, hu, hb5⟩
  · have hx' : (x == 0) = false := by simpa using hx
    go_wp2_with fail
    go_ret
    exact ⟨t, rfl, by omega, hr4.bel⟩

/-- What opening a short text answers: no text; or a text that packs to it. -/
theorem opens (p : ByteArray) (hp : p.size ≤ 200) :
    (∃ x : ByteArray, (∀ w, Calls Try.prog 13 #[.string p] w fun e w' => e = .returned (.tuple #[.string x, .bool false]) ∧ Below w.heap.size w w') ∧
      (∀ w, Calls Try.prog 14 #[.string p] w fun e w' => e = .returned (.tuple #[.string x, .bool false]) ∧ Below w.heap.size w w')) ∨
    (∃ x : ByteArray, (∀ w, Calls Try.prog 13 #[.string p] w fun e w' => e = .returned (.tuple #[.string x, .bool true]) ∧ Below w.heap.size w w') ∧
      (∀ w, Calls Try.prog 14 #[.string p] w fun e w' => e = .returned (.tuple #[.string x, .bool true]) ∧ Below w.heap.size w w') ∧
      (∀ w, Calls Try.prog 12 #[.string x] w fun e w' => e = .returned (.string p) ∧ Below w.heap.size w w')) := by
  have hS := fun w => spec_open p w (by omega)
  have hI := fun w => impl_open p w (by omega)
  obtain ⟨⟨x, b⟩, hr⟩ : ∃ r, r = openA p.data.toList := ⟨_, rfl⟩
  rw [← hr] at hS hI
  cases b with
  | false => exact .inl ⟨strOf x, hS, hI⟩
  | true =>
    have hpk := openA_true hr.symm
    have hl := pack_long x
    have hd : p.data.toList.length = p.size := by simp
    rw [hpk, hd] at hl
    refine .inr ⟨strOf x, hS, hI, fun w => ?_⟩
    have h := impl_pack (strOf x) w (by rw [strOf_size]; omega)
    rw [strOf_toList, hpk] at h
    rw [show strOf p.data.toList = p from strOf_inj.2 rfl] at h
    exact h

set_option maxHeartbeats 1000000 in
theorem walk_open (A : Option Addr) (n cap : Nat) (w : World) (hn : n ≤ cap) (hA : BytesAt w A n) :
    Calls Try.prog 8 #[.slice A n cap] w fun e w' => e = .returned (.bool true) ∧ Below w.heap.size w w' := by
  by_cases h1 : 1048576 < n
  · have h1' : (1048576 : Int) < (n : Int) := by omega
    go_enter Try.func8, Try.ntmps8
    go_wp2
    go_ret
    exact ⟨rfl, Below.refl _ _⟩
  · have h1' : ¬ (1048576 : Int) < (n : Int) := by omega
    have hD := draw_open A n cap w hn hA
    go_enter Try.func8, Try.ntmps8
    go_wp2_with (go_at_call 17; refine hD.mono ?_; rintro e w1 ⟨p, rfl, hp, hb⟩; refine Hid.out ?_)
    refine Lib.hid ?_
    clear hD
    rcases opens p hp with ⟨x, hS, hI⟩ | ⟨x, hS, hI, hP⟩
    · go_wp2_with (first | (go_at_call 14; refine (hI _).mono ?_; rintro e w2 ⟨rfl, hb2⟩) | (go_at_call 13; refine (hS _).mono ?_; rintro e w3 ⟨rfl, hb3⟩))
      go_ret
      have c2 := hb.trans (hb2.mono hb.size)
      exact ⟨rfl, c2.trans (hb3.mono c2.size)⟩
    · go_wp2_with (first | (go_at_call 14; refine (hI _).mono ?_; rintro e w2 ⟨rfl, hb2⟩) | (go_at_call 13; refine (hS _).mono ?_; rintro e w3 ⟨rfl, hb3⟩) | (go_at_call 12; refine (hP _).mono ?_; rintro e w4 ⟨rfl, hb4⟩))
      go_ret
      have c2 := hb.trans (hb2.mono hb.size)
      have c3 := c2.trans (hb3.mono c2.size)
      exact ⟨rfl, c3.trans (hb4.mono c3.size)⟩

end Go.Proofs.Ytgnpeoddnahnpaa
