/-
  FnRunsPack, its walk: what is packed opens to the same text, and is at most three times as long.
-/
import Derived.Test.YtgnpeoddnahnpaaText
import Derived.Test.YtgnpeoddnahnpaaOpenI
namespace Go.Proofs.Ytgnpeoddnahnpaa
open Go.RowKit

theorem rep_rlc (c : UInt8) (m : Nat) (l : List UInt8) : List.replicate (rlc c m l) c ++ l.drop (rlc c m l) = l := by
  induction m generalizing l with
  | zero => simp [rlc]
  | succ m ih =>
    cases l with
    | nil => simp [rlc]
    | cons d l =>
      by_cases h : d = c
      · subst h
        rw [rlc_hit, List.replicate_succ, List.cons_append, List.drop_succ_cons, ih]
      · rw [rlc_miss _ _ _ _ h]
        simp
theorem rep_rl (c : UInt8) (l : List UInt8) : List.replicate (rl (c :: l)) c ++ (c :: l).drop (rl (c :: l)) = c :: l := by
  show List.replicate (rlc c 8 l + 1) c ++ (c :: l).drop (rlc c 8 l + 1) = c :: l
  rw [List.replicate_succ, List.cons_append, List.drop_succ_cons, rep_rlc]
theorem open_reps (c : UInt8) (hc : c ≠ 126) (n : Nat) (m : List UInt8) : openL (List.replicate n c ++ m) = (openL m).map (List.replicate n c ++ ·) := by
  induction n with
  | zero => cases h : openL m <;> simp [h]
  | succ n ih =>
    rw [List.replicate_succ, List.cons_append, openL_lit c _ hc, ih]
    cases openL m <;> simp
theorem open_piece (c : UInt8) (n : Nat) (h1 : 1 ≤ n) (h9 : n ≤ 9) (m : List UInt8) : openL (piece c n ++ m) = (openL m).map (List.replicate n c ++ ·) := by
  unfold piece
  by_cases h : 4 ≤ n ∨ c = 126
  · rw [if_pos h]
    have hn : (UInt8.ofNat (48 + n)).toNat = 48 + n := by simp; omega
    show openL (126 :: UInt8.ofNat (48 + n) :: c :: m) = _
    rw [openL_run _ _ _ (by omega), hn, Nat.add_sub_cancel_left]
  · rw [if_neg h]
    exact open_reps c (fun e => h (.inr e)) n m
theorem open_pack (l : List UInt8) : openL (pack l) = some l := by
  induction hn : l.length using Nat.strongRecOn generalizing l with
  | _ n ih =>
    cases l with
    | nil => rw [pack_nil, openL_nil]
    | cons c l =>
      have hb := rl_cons c l
      rw [pack_run, open_piece c _ hb.1 hb.2, ih ((c :: l).drop (rl (c :: l))).length (by rw [← hn, List.length_drop, List.length_cons]; omega) _ rfl]
      simp only [Option.map_some, rep_rl]
theorem openA_pack (l : List UInt8) : openA (pack l) = (l, true) := openA_yes (open_pack l) rfl

def PackPost (N : Nat) (w : World) (e : Ending) (w' : World) : Prop := ∃ s : ByteArray, e = .returned (.string s) ∧ s.size ≤ N ∧ Below w.heap.size w w'

set_option maxHeartbeats 1000000 in
theorem draw_pack (A : Option Addr) (n cap : Nat) (w : World) (hn : n ≤ cap) (hA : BytesAt w A n) :
    Calls Try.prog 16 #[.slice A n cap] w (PackPost 40 w) := by
  have hO := open_rd A n cap w hn hA
  go_enter Try.func16, Try.ntmps16
  go_wp2_with (go_at_call 21; refine hO.mono ?_; rintro e w1 ⟨A1, m, c1, B, rfl, hr⟩; refine Hid.out ?_)
  refine Lib.hid ?_
  have hT := text_any w w1 B A1 m c1 0 40 hr (by omega) (by omega)
  go_wp2_with (go_at_call 22; refine hT.mono ?_; rintro e w2 ⟨s, p', rfl, hs, hr2, _⟩)
  go_ret
  exact ⟨s, rfl, hs, hr2.bel⟩

/-- The three contracts at one text, the packed text named. -/
theorem packs (s : ByteArray) (hs : s.size ≤ 40) : ∃ t : ByteArray, t.size ≤ 3 * s.size ∧
    (∀ w, Calls Try.prog 11 #[.string s] w fun e w' => e = .returned (.string t) ∧ Below w.heap.size w w') ∧
    (∀ w, Calls Try.prog 12 #[.string s] w fun e w' => e = .returned (.string t) ∧ Below w.heap.size w w') ∧
    (∀ w, Calls Try.prog 14 #[.string t] w fun e w' => e = .returned (.tuple #[.string s, .bool true]) ∧ Below w.heap.size w w') := by
  have hl := pack_len s.data.toList
  have hd : s.data.toList.length = s.size := by simp
  have ht : (strOf (pack s.data.toList)).size ≤ 3 * s.size := by rw [strOf_size]; omega
  refine ⟨strOf (pack s.data.toList), ht, fun w => spec_pack s w (by omega), fun w => impl_pack s w (by omega), fun w => ?_⟩
  have h := impl_open (strOf (pack s.data.toList)) w (by omega)
  rw [strOf_toList, openA_pack] at h
  rw [show strOf s.data.toList = s from strOf_inj.2 rfl] at h
  exact h

set_option maxHeartbeats 1000000 in
theorem walk_pack (A : Option Addr) (n cap : Nat) (w : World) (hn : n ≤ cap) (hA : BytesAt w A n) :
    Calls Try.prog 7 #[.slice A n cap] w fun e w' => e = .returned (.bool true) ∧ Below w.heap.size w w' := by
  by_cases h1 : 1048576 < n
  · have h1' : (1048576 : Int) < (n : Int) := by omega
    go_enter Try.func7, Try.ntmps7
    go_wp2
    go_ret
    exact ⟨rfl, Below.refl _ _⟩
  · have h1' : ¬ (1048576 : Int) < (n : Int) := by omega
    have hD := draw_pack A n cap w hn hA
    go_enter Try.func7, Try.ntmps7
    go_wp2_with (go_at_call 16; refine hD.mono ?_; rintro e w1 ⟨s, rfl, hs, hb⟩; refine Hid.out ?_)
    refine Lib.hid ?_
    obtain ⟨t, ht, hS, hI, hO⟩ := packs s hs
    have hle : (t.size : Int) ≤ 3 * (s.size : Int) := by omega
    have hw := IntWalk.i64_in (3 * (s.size : Int)) (by omega)
    clear hD
    go_wp2_with (first | (go_at_call 12; refine (hI _).mono ?_; rintro e w2 ⟨rfl, hb2⟩) | (go_at_call 11; refine (hS _).mono ?_; rintro e w3 ⟨rfl, hb3⟩) | (go_at_call 14; refine (hO _).mono ?_; rintro e w4 ⟨rfl, hb4⟩))
    go_ret
    have c2 := hb.trans (hb2.mono hb.size)
    have c3 := c2.trans (hb3.mono c2.size)
    exact ⟨rfl, c3.trans (hb4.mono c3.size)⟩

end Go.Proofs.Ytgnpeoddnahnpaa
