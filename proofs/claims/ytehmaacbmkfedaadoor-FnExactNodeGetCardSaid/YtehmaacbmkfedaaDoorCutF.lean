/-
  cutField, the program's: it cuts the first field off the text of a record, or answers that there is none.
-/
import Derived.Test.YtehmaacbmkfedaaDoorRecCut
import Derived.Test.YtehmaacbmkfedaaDoorParts0
import Derived.Lib.Split
namespace Go.Proofs.YtehmaacbmkfedaaDoor
open Go.RowKit

theorem ext_pre (f : ByteArray) (r : List UInt8) : (strOf (f.data.toList ++ r)).extract 0 f.size = f := by
  apply bytes_inj
  rw [Lib.extract_from_zero, strOf_toList]
  have : f.size = f.data.toList.length := by rw [Array.length_toList]; rfl
  rw [this, List.take_left]
theorem ext_suf (f : ByteArray) (r : List UInt8) (n : Nat) (hn : n = (strOf (f.data.toList ++ r)).size) : (strOf (f.data.toList ++ r)).extract f.size n = strOf r := by
  apply bytes_inj
  rw [hn, Lib.extract_to_end, strOf_toList, strOf_toList]
  have : f.size = f.data.toList.length := by rw [Array.length_toList]; rfl
  rw [this, List.drop_left]

def CutPost (s : ByteArray) (w : World) (e : Ending) (w' : World) : Prop :=
  Below w.heap.size w w' ∧
  ((∃ f r, s.data.toList = encF f ++ r ∧ e = .returned (.tuple #[.string f, .string (strOf r), .bool true])) ∨
   ((∀ f r, s.data.toList ≠ encF f ++ r) ∧ e = .returned (.tuple #[.string ⟨#[]⟩, .string ⟨#[]⟩, .bool false])))

set_option maxRecDepth 100000 in
set_option maxHeartbeats 1000000 in
theorem cut_any (s : ByteArray) (w : World) (hs : s.size ≤ 1048576) (hT : Tab w) (hE : Errs w) (hM : MaxL w) :
    Calls Tryd.prog 77 #[.string s] w (CutPost s w) := by
  obtain ⟨m, hm⟩ := hM
  have hlen : s.data.toList.length = s.size := by simp
  have hC := Tryd.strings_Cut s ⟨#[58]⟩ m w (by omega) hm
  rw [show (⟨#[58]⟩ : ByteArray).data.toList = [58] from rfl] at hC
  rcases cut_field s.data.toList (by omega) with ⟨f, r, hfr, hcut, hng⟩ | ⟨hno, b, a, o, hcut, hb, ha, hbad⟩
  · rw [hcut] at hC
    have hl := congrArg List.length hfr
    rw [List.length_append, encF_len] at hl
    have hN := fun (w1 : World) (hb1 : Below w.heap.size w w1) => impl_numget (strOf (Lib.decDigits f.size)) w1 (by rw [strOf_size]; omega) (Tab.at hT hb1) (hE.below hb1)
    rw [strOf_toList, hng] at hN
    dsimp only at hN hC
    have hC2 : Calls Tryd.prog 92 #[.string s, .string ⟨#[58]⟩] w fun e w' => e = .returned (.tuple #[.string (strOf (Lib.decDigits f.size)), .string (strOf (f.data.toList ++ r)), .bool true]) ∧ Below w.heap.size w w' :=
      hC.mono fun e w' ⟨he, n, hw⟩ => ⟨he, by rw [hw]; exact below_drewN (Below.refl _ _) n⟩
    obtain ⟨t, ht⟩ : ∃ t, t = strOf (f.data.toList ++ r) := ⟨_, rfl⟩
    have hts : t.size = f.size + r.length := by rw [ht, strOf_size, List.length_append]; simp
    have hp := ext_pre f r
    have hsf := ext_suf f r t.size (by rw [ht])
    rw [← ht] at hp hsf hC2
    obtain ⟨d, hd⟩ : ∃ d, d = strOf (Lib.decDigits f.size) := ⟨_, rfl⟩
    rw [← hd] at hC2 hN
    obtain ⟨n, hn⟩ : ∃ n, n = f.size := ⟨_, rfl⟩
    rw [← hn] at hN hp hsf hts
    have HF := Lib.hid hfr
    have c1 : ¬ (t.size : Int) < (n : Int) := by omega
    have c2 : (0 : Int) ≤ (n : Int) := by omega
    have c3 : (n : Int) ≤ (t.size : Int) := by omega
    clear hC hcut hng hfr hl hT hE hm ht hd hn hlen
    go_enter Tryd.func77, Tryd.ntmps77
    go_wp2_with (first | (go_at_call 92; refine hC2.mono ?_; rintro e w1 ⟨rfl, hb1⟩) | (go_at_call 79; refine (hN _ hb1).mono ?_; rintro e w2 ⟨rfl, hb2⟩))
    go_quiet (fail)
    go_wp2_with fail
    go_ret3
    refine ⟨?_, .inl ⟨f, r, HF.out, ?_⟩⟩
    · exact below_drewN (hb1.trans (hb2.mono hb1.size)) _
    · have hx : t.extract n (n + r.length) = strOf r := by rw [← hts]; exact hsf
      show Ending.returned (.tuple #[.string f, .string (t.extract n (n + r.length)), .bool true]) = _
      rw [hx]
  · rw [hcut] at hC
    have hN := fun (w1 : World) (hb1 : Below w.heap.size w w1) => impl_numget (strOf b) w1 (by rw [strOf_size]; omega) (Tab.at hT hb1) (hE.below hb1)
    rw [strOf_toList] at hN
    dsimp only at hC
    have hC2 : Calls Tryd.prog 92 #[.string s, .string ⟨#[58]⟩] w fun e w' => e = .returned (.tuple #[.string (strOf b), .string (strOf a), .bool o]) ∧ Below w.heap.size w w' :=
      hC.mono fun e w' ⟨he, n, hw⟩ => ⟨he, by rw [hw]; exact below_drewN (Below.refl _ _) n⟩
    obtain ⟨t, ht⟩ : ∃ t, t = strOf a := ⟨_, rfl⟩
    have hts : t.size = a.length := by rw [ht, strOf_size]
    rw [← ht] at hC2
    rw [← hts] at hbad
    obtain ⟨d, hd⟩ : ∃ d, d = strOf b := ⟨_, rfl⟩
    rw [← hd] at hC2 hN
    obtain ⟨⟨n, p⟩, hnp⟩ : ∃ x, x = numG b := ⟨_, rfl⟩
    rw [← hnp] at hbad hN
    dsimp only at hbad hN
    have HF := Lib.hid hno
    clear hC hcut hno hT hE hm ht hd hnp hlen hb ha hts
    rcases hbad with rfl | rfl | hbig
    · go_enter Tryd.func77, Tryd.ntmps77
      go_wp2_with (first | (go_at_call 92; refine hC2.mono ?_; rintro e w1 ⟨rfl, hb1⟩) | (go_at_call 79; refine (hN _ hb1).mono ?_; rintro e w2 ⟨rfl, hb2⟩))
      go_ret3
      exact ⟨hb1.trans (hb2.mono hb1.size), .inr ⟨HF.out, rfl⟩⟩
    · cases o
      all_goals
        go_enter Tryd.func77, Tryd.ntmps77
        go_wp2_with (first | (go_at_call 92; refine hC2.mono ?_; rintro e w1 ⟨rfl, hb1⟩) | (go_at_call 79; refine (hN _ hb1).mono ?_; rintro e w2 ⟨rfl, hb2⟩))
        go_ret3
        exact ⟨hb1.trans (hb2.mono hb1.size), .inr ⟨HF.out, rfl⟩⟩
    · cases o <;> cases p
      all_goals
        go_enter Tryd.func77, Tryd.ntmps77
        go_wp2_with (first | (go_at_call 92; refine hC2.mono ?_; rintro e w1 ⟨rfl, hb1⟩) | (go_at_call 79; refine (hN _ hb1).mono ?_; rintro e w2 ⟨rfl, hb2⟩))
        go_ret3
        exact ⟨hb1.trans (hb2.mono hb1.size), .inr ⟨HF.out, rfl⟩⟩

end Go.Proofs.YtehmaacbmkfedaaDoor
